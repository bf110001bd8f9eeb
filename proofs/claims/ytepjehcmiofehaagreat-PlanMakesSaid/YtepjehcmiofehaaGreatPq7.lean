/- Both Readers, erred or not: one state, one function. A Reader beside a block that is known whole (XBlk's second half, beside XWhl). octet.Writer's Bytes; texts as bytes. octet's Writer.Bytes, with frames by touched blocks. -/
import Derived.Lib.ConvBytes
import Derived.Lib.AtoiErrMem
import Derived.Test.YtepjehcmiofehaaGreatPq6
namespace Go.Proofs.YtepjehcmiofehaaGreat
open Go.RowKit
set_option linter.unusedVariables false
set_option linter.unusedSimpArgs false
theorem rd_suffix : ∀ (l : List Nat) (i acc n : Nat) (r : List Nat), rd i acc l = some (n, r) → r.length ≤ l.length ∧ (∀ x ∈ r, x ∈ l) ∧ n ≤ 4611686018427387904 := by
  intro l
  induction l with
  | nil => intro i acc n r h; simp [rd] at h
  | cons b t ih =>
    intro i acc n r h
    rw [rd] at h
    split at h
    · cases h
    · split at h
      · obtain ⟨h1, h2, h3⟩ := ih _ _ _ _ h
        exact ⟨by simp; omega, fun x hx => by simp [h2 x hx], h3⟩
      · split at h
        · cases h
        · rename_i hc
          injection h with h; injection h with h1 h2; subst h1 h2
          exact ⟨by simp, fun x hx => by simp [hx], by omega⟩
/-- one number out of what is left; none: it erred -/
def nx : Option (List Nat) → Nat × Option (List Nat)
  | none => (0, none)
  | some r => match rd 0 0 r with
    | none => (0, none)
    | some (n, t) => (n, some t)
/-- a Reader in a state -/
structure RS (w : World) (b : Nat) (st : Option (List Nat)) : Prop where
  rd : Rd w b (st.getD []) st.isNone
  len : (st.getD []).length ≤ 100000
  byt : ∀ x ∈ st.getD [], x < 256
theorem RS.of {w : World} {b : Nat} {r : List Nat} (h : Rd w b r false) (hl : r.length ≤ 100000) (hb : ∀ x ∈ r, x < 256) : RS w b (some r) := ⟨h, hl, hb⟩
theorem RS.bad {w : World} {b : Nat} (h : Rd w b [] true) : RS w b none := ⟨h, by simp, by simp⟩
theorem nx_le (st : Option (List Nat)) : (nx st).1 ≤ 4611686018427387904 := by
  cases st with
  | none => simp [nx]
  | some r =>
    simp only [nx]
    cases h : rd 0 0 r with
    | none => simp
    | some p => obtain ⟨n, t⟩ := p; exact (rd_suffix r 0 0 n t h).2.2
theorem nx_enc {n : Nat} (h : n ≤ 4611686018427387904) (r : List Nat) : nx (some (enc n ++ r)) = (n, some r) := by
  have := rd_enc n 0 0 r (fun h => absurd h (by omega)) (by simpa using h)
  simp only [Nat.pow_zero, Nat.mul_one, Nat.zero_add] at this
  simp only [nx, this]
theorem Rd.touchBelow {w w' : World} {b B : Nat} {rest : List Nat} {bad : Bool} (h : Rd w b rest bad) (hb : Below B w w') (hB : b < B) : Rd w' b rest bad := by
  obtain ⟨A, c, h0, h1, h2, h3⟩ := h.row
  exact ⟨⟨A, c, bkeep hb h0 hB, h1, h2, cells_keep h3 (hb.mono (Nat.le_of_lt hB)) (Nat.le_refl _)⟩, bkeep hb h.flag hB, fun j => bfree hb (h.free j) hB, Nat.lt_of_lt_of_le h.low hb.size⟩
theorem RS.below {w w' : World} {b B : Nat} {st : Option (List Nat)} (h : RS w b st) (hb : Below B w w') (hB : b < B) : RS w' b st := ⟨h.rd.touchBelow hb hB, h.len, h.byt⟩
theorem RS.low {w : World} {b : Nat} {st : Option (List Nat)} (h : RS w b st) : b < w.heap.size := h.rd.low
theorem numPost_of {w' : World} {b : Nat} {e : Ending} {r : List Nat} (hl : r.length ≤ 100000) (h256 : ∀ x ∈ r, x < 256) (h : NumPost w' b e (rd 0 0 r)) : e = .returned (.int .i64 (nx (some r)).1) ∧ RS w' b (nx (some r)).2 := by
  cases hr : rd 0 0 r with
  | none => rw [hr] at h; simp only [nx, hr]; exact ⟨h.1, RS.bad h.2⟩
  | some p =>
    obtain ⟨n, t⟩ := p
    rw [hr] at h
    obtain ⟨h1, h2, _⟩ := rd_suffix r 0 0 n t hr
    simp only [nx, hr]
    exact ⟨h.1, RS.of h.2 (by omega) (fun x hx => h256 x (h2 x hx))⟩
/-- nothing erred, and nothing is left -/
def allOf (st : Option (List Nat)) : Bool := match st with | some [] => true | _ => false
theorem octAll (b : Nat) (st : Option (List Nat)) (w : World) (hr : RS w b st) :
    Calls Tryz.prog 49 #[.pointer (some ⟨b, 0, none⟩)] w fun e w' => e = .returned (.bool (allOf st)) ∧ w = w' :=
  (rdWhole b _ _ w hr.rd (Nat.le_trans hr.len (by decide))).mono fun e w' ⟨he, hw⟩ => ⟨by rw [he]; cases st with | none => rfl | some r => cases r <;> rfl, hw⟩
/-- a Reader over any slice of bytes -/
theorem octNew (A : Option Addr) (c : Nat) (xs : List Nat) (w : World) (hn : xs.length ≤ 100000) (h256 : ∀ x ∈ xs, x < 256) (hx : Cells w w.heap.size A xs.length c 1 (flatU xs)) :
    Calls Tryz.prog 46 #[.slice A xs.length c] w fun e w' => ∃ b, e = .returned (.pointer (some ⟨b, 0, none⟩)) ∧ w.heap.size ≤ b ∧ RS w' b (some xs) ∧ Below w.heap.size w w' := by
  cases A with
  | none =>
    obtain ⟨h1, h2⟩ := hx.2.1 rfl
    obtain rfl : xs = [] := List.eq_nil_of_length_eq_zero h1
    exact (newReader0 0 c w).mono fun e w' ⟨b, he, hb, hr, hB⟩ => ⟨b, he, hb, RS.of hr (by simp) (by simp), hB⟩
  | some ad => exact (newReader1 ad c xs w (by omega) hx).mono fun e w' ⟨b, he, hb, hr, hB⟩ => ⟨b, he, hb, RS.of hr hn h256, hB⟩
end Go.Proofs.YtepjehcmiofehaaGreat
namespace Go.Proofs.YtepjehcmiofehaaGreat
open Go.RowKit
set_option linter.unusedVariables false
set_option linter.unusedSimpArgs false
/-- none of the cells is a byte -/
def noU8 (cs : Array Value) : Prop := ∀ (i : Nat) (x : Int), cs[i]? ≠ some (.int .u8 x)
theorem flatU_is {xs : List Nat} {j : Nat} {u : Value} (h : (flatU xs)[j]? = some u) : ∃ x : Int, u = .int .u8 x := by
  simp only [flatU, List.getElem?_map, Option.map_eq_some_iff] at h
  obtain ⟨x, _, rfl⟩ := h
  exact ⟨_, rfl⟩
theorem RS.setBlk {w : World} {b g i : Nat} {t : TypeId} {cs : Array Value} {st : Option (List Nat)} (h : RS w b st) (hg : Whl w g t cs) (hn : noU8 cs) (hne : g ≠ b) (v : Value) : RS (w.setCell ⟨g, i, none⟩ v) b st := by
  obtain ⟨A, c, h0, h1, h2, h3⟩ := h.rd.row
  refine ⟨⟨⟨A, c, c_set_other (Or.inl hne) h0, h1, h2, h3.1, h3.2.1, fun j u hu => ?_⟩, c_set_other (Or.inl hne) h.rd.flag, fun j => f_set (h.rd.free j), by have := h.low; simpa [World.setCell] using this⟩, h.len, h.byt⟩
  obtain ⟨q, o, e, hq, hc⟩ := h3.2.2 j u hu
  refine ⟨q, o, e, hq, c_set_other (Or.inl ?_) hc⟩
  rintro rfl
  obtain ⟨x, rfl⟩ := flatU_is hu
  rw [hg.cell] at hc
  exact hn _ _ hc
theorem RS.alloc {w : World} {b : Nat} {st : Option (List Nat)} (h : RS w b st) (o : Obj) : RS (w.alloc o) b st := h.below (B := w.heap.size) ((Below.refl _ _).alloc (Nat.le_refl _) _) h.low
end Go.Proofs.YtepjehcmiofehaaGreat
namespace Go.Proofs.YtepjehcmiofehaaGreat
open Go.RowKit
set_option linter.unusedVariables false
set_option linter.unusedSimpArgs false
def encb (l : List (List Nat)) : List Nat := l.flatMap fun x => enc x.length ++ x
theorem encb_snoc {l : List (List Nat)} {k : Nat} (h : k < l.length) : encb (l.take (k + 1)) = encb (l.take k) ++ (enc l[k].length ++ l[k]) := by
  unfold encb
  rw [List.take_succ_eq_append_getElem h, List.flatMap_append, List.flatMap_singleton]
theorem clamp_nat {n : Nat} (h : n ≤ 1000000) : clamp (n : Int) = n := by unfold clamp; omega
theorem Wr.below {w w' : World} {b base : Nat} {xs : List Nat} (h : Wr w b base xs) (hb : Below w.heap.size w w') : Wr w' b base xs := by
  obtain ⟨⟨s, hs, ho⟩, hf, hl, hh⟩ := h
  have h1 : b < w.heap.size := by omega
  exact ⟨⟨s, bkeep hb hs h1, row_below ho hb⟩, bfree hb hf h1, hl, Nat.le_trans hh hb.size⟩
/-- a text as bytes -/
def bs (s : ByteArray) : List Nat := s.data.toList.map UInt8.toNat
theorem bs_length (s : ByteArray) : (bs s).length = s.size := by simp [bs]
@[go_sem] theorem bw_cell (w : World) (e : TypeId) (s : ByteArray) (n i : Nat) : (Lib.bytesWorld w e s).cell? ⟨n, i, none⟩ = if n < w.heap.size then w.cell? ⟨n, i, none⟩ else cellElse (Lib.bytesWorld w e s) n i := by
  by_cases h : n < w.heap.size
  · rw [if_pos h]; exact Lib.bytesWorld_old w e s ⟨n, i, none⟩ h
  · rw [if_neg h]; rfl
@[go_sem] theorem bw_frozen (w : World) (e : TypeId) (s : ByteArray) (n i : Nat) : (Lib.bytesWorld w e s).frozen? ⟨n, i, none⟩ = if n < w.heap.size then w.frozen? ⟨n, i, none⟩ else frozenElse (Lib.bytesWorld w e s) n i := by
  by_cases h : n < w.heap.size
  · rw [if_pos h]; exact World.frozen?_of_block (w := w) (a := ⟨n, i, none⟩) (Lib.bytesWorld_at_old w e s n h)
  · rw [if_neg h]; rfl
@[simp, go_sem] theorem bw_size (w : World) (e : TypeId) (s : ByteArray) : (Lib.bytesWorld w e s).heap.size = w.heap.size + 1 := Lib.bytesWorld_size w e s
theorem bw_below (w : World) (e : TypeId) (s : ByteArray) : Below w.heap.size w (Lib.bytesWorld w e s) := Lib.bytesWorld_below w e s
theorem bw_cells (w : World) (e : TypeId) (s : ByteArray) (B c : Nat) (hB : w.heap.size < B) : Cells (Lib.bytesWorld w e s) B (some ⟨w.heap.size, 0, none⟩) (bs s).length c 1 (flatU (bs s)) := by
  refine ⟨by simp [flatU], (fun e => by cases e), fun j u hu => ⟨w.heap.size, 0, rfl, hB, ?_⟩⟩
  have hj : j < s.size := by have := (List.getElem?_eq_some_iff.1 hu).1; simpa [flatU, bs_length] using this
  rw [Nat.zero_add, Lib.bytesWorld_cell w e s j hj, ← hu]
  have hj2 : j < s.data.toList.length := by simpa using hj
  simp only [flatU, bs, List.map_map, List.getElem?_map, List.getElem?_eq_getElem hj2, Option.map_some, List.getD, Option.getD_some, Function.comp]
end Go.Proofs.YtepjehcmiofehaaGreat
namespace Go.Proofs.YtepjehcmiofehaaGreat
open Go.RowKit
set_option linter.unusedVariables false
set_option linter.unusedSimpArgs false
/-- a slice of slices of bytes that reads as a list, apart from a Writer -/
def RowsAt (w : World) (b : Nat) (A : Option Addr) (l : List (List Nat)) : Prop :=
  ∀ k (h : k < l.length), ∃ q o Ak ck, A = some ⟨q, o, none⟩ ∧ ¬ WD w b q ∧ w.cell? ⟨q, o + k, none⟩ = some (.slice Ak l[k].length ck) ∧ Cells w w.heap.size Ak l[k].length ck 1 (flatU l[k]) ∧ ∀ a, Ak = some a → ¬ WD w b a.block
set_option maxHeartbeats 2000000 in
set_option maxRecDepth 10000 in
theorem wBytesT (b base : Nat) (A : Option Addr) (c : Nat) (l : List (List Nat)) (xs : List Nat) (w : World) (hl : l.length ≤ 1000) (h1000 : ∀ x ∈ l, x.length ≤ 10000) (hxs : ∀ k, k ≤ l.length → xs.length + (encb (l.take k)).length ≤ 100000) (hw : Wr w b base xs) (hx : RowsAt w b A l) :
    Calls Tryz.prog 52 #[.pointer (some ⟨b, 0, none⟩), .slice A l.length c] w fun e w' => e = .returned (.tuple #[]) ∧ Wr w' b base (xs ++ encb l) ∧ Touch (WD w b) w w' ∧ WNear w b w' := by
  obtain ⟨i0, hi, hz0, hz1, hz2⟩ := info_parts Tryz.infoByte
  have HX := Lib.hid hx
  have HW0 := Lib.hid hw
  have H1 := Lib.hid h1000
  have H2 := Lib.hid hxs
  clear hx hw h1000 hxs
  go_enter Tryz.func52, Tryz.ntmps52
  go_wp2_with fail
  go_loopw [10] (fun i wr => ∃ k : Nat, k ≤ l.length ∧ i = .int .i64 k ∧ Hid (Wr wr b base (xs ++ encb (l.take k))) ∧ Hid (Touch (WD w b) w wr) ∧ Hid (WNear w b wr)) (fun i _ => l.length - (intOf i).toNat)
  case atStart => exact ⟨0, by omega, rfl, Lib.hid (by simpa [encb] using HW0.out), Lib.hid (Touch.refl _ _), Lib.hid (WNear.refl _ _)⟩
  case round =>
    obtain ⟨k, hk, rfl, HW, HT, HN⟩ := hrel
    by_cases hlt : k < l.length
    · obtain ⟨b1, o, Ak, ck, rfl, hb, h1, h2, h2b⟩ := HX.out k hlt
      replace h1 := HT.out.cell h1 hb
      have hsz := HT.out.size
      have hC0 := HT.out.cells h2 h2b
      have hlk : l[k].length ≤ 10000 := H1.out _ (List.getElem_mem _)
      have hq := H2.out k hk
      obtain ⟨⟨s, hs, hown⟩, hfr, hlow, hhigh⟩ := HW.out
      have HO := Lib.hid hown
      have hi1 : (k : Int) < (l.length : Int) := by omega
      have hsb : ¬ s.ownBlock = some b := fun e => by have := (hown.lt b e).1; omega
      have hAs : ∀ a, Ak = some a → a.block < w.heap.size → ¬ s.ownBlock = some a.block := fun a ha hlt2 e => h2b a ha (Or.inr (HN.out.old _ hlt2 ((wrow_of hs).trans e)))
      have hAl : l[k].length ≠ 0 → ∀ a, Ak = some a → a.block < w.heap.size := by
        intro hne a ha
        have hpos : 0 < (flatU l[k]).length := by simp [flatU]; omega
        obtain ⟨bb, oo, ee, hlt3, _⟩ := h2.2.2 0 _ (List.getElem?_eq_getElem hpos)
        rw [ee] at ha; injection ha with ha; subst ha; exact hlt3
      have hC1 : ∀ W, Touch (fun k => s.ownBlock = some k) wr W → Cells W w.heap.size Ak l[k].length ck 1 (flatU l[k]) := by
        intro W ht
        refine ⟨hC0.1, hC0.2.1, fun j u hu => ?_⟩
        obtain ⟨bb, oo, ee, hlt3, hcc⟩ := hC0.2.2 j u hu
        exact ⟨bb, oo, ee, hlt3, ht.cell hcc (hAs _ ee hlt3)⟩
      have HC1 := Lib.hid hC1
      clear hown h2 hC0 hC1 hAl hAs
      go_wp2_with fail
      refine (octAppendT s _ _ (l[k].length : Int) base _ (by rw [List.length_append]; omega) hhigh HO.out).mono ?_
      rintro e w3 ⟨v3, rfl, hown3, ht3, hn3⟩
      have hs3 := ht3.size
      rw [clamp_nat (by omega), ← flatU_app, ← List.length_append] at hown3
      have HO3 := Lib.hid hown3
      have c3 := ht3.cell hs hsb
      have f3 := ht3.frozen (by omega) hfr hsb
      have HC3 := Lib.hid (HC1.out w3 ht3)
      have hen : (enc l[k].length).length ≤ 10 := enc_len (by omega)
      have hln : (xs ++ encb (l.take k) ++ enc l[k].length).length ≤ 200000 := by simp only [List.length_append]; omega
      have hsb3 : ¬ v3.ownBlock = some b := fun e => by have := (hown3.lt b e).1; omega
      have HT3 := Lib.hid (HT.out.trans ht3 (fun n h1 h2 => (Or.inr (HN.out.old n h1 ((wrow_of hs).trans h2)) : WD w b n)))
      have HN3 := Lib.hid hn3
      clear hown3 hn3
      go_wp2_with (at_builtin; go_must (refine wpList_append_touch rfl (.tmp 21) (.tmp 22) 70 rfl base 5 i0 (.int .u8 0) 1 1 Tryz.underlying70 hi hz0 hz1 hz2 rfl (by decide) v3 _ _ rfl HO3.out w.heap.size Ak l[k].length ck (flatU l[k]) rfl HC3.out (flatU_one _) (by unfold maxLen; omega) (by omega) (by omega) ?_); intro v5 w5 hown5 ht5 hl5; have c5 := ht5.cell c3 hsb3; have f5 := ht5.frozen (by omega) f3 hsb3; have hs5 := ht5.size; have HN5 := Lib.hid (HN3.out.step hs3 hl5); have HT5 := Lib.hid (HT3.out.trans ht5 (fun n h1 h2 => (Or.inr (HN.out.old n h1 ((wrow_of hs).trans (HN3.out.old n (by omega) h2))) : WD w b n))); obtain ⟨A5, cp5, rfl, -, -, -⟩ := row_cells hown5; have HO5 := Lib.hid hown5; clear hown5)
      have e5 : xs ++ encb (l.take k) ++ enc l[k].length ++ l[k] = xs ++ encb (l.take (k + 1)) := by rw [encb_snoc hlt]; simp only [List.append_assoc]
      have hO6 := HO5.out
      rw [← flatU_app, ← List.length_append, e5] at hO6
      have hN5 := HN5.out
      rw [← List.length_append, e5] at hN5
      have HW6 : Hid (Wr (w5.setCell ⟨b, 0, none⟩ (.slice A5 (xs ++ encb (l.take (k + 1))).length cp5)) b base (xs ++ encb (l.take (k + 1)))) := Lib.hid ⟨⟨_, c_set_same (h_of c5), row_set hO6 hlow _⟩, f_set f5, hlow, by simp; omega⟩
      have HT6 : Hid (Touch (WD w b) w (w5.setCell ⟨b, 0, none⟩ (.slice A5 (xs ++ encb (l.take (k + 1))).length cp5))) := Lib.hid (HT5.out.set (fun _ => Or.inl rfl))
      have HN6 : Hid (WNear w b (w5.setCell ⟨b, 0, none⟩ (.slice A5 (xs ++ encb (l.take (k + 1))).length cp5))) := Lib.hid (HN.out.step (w2 := w5) hsz hs hN5 (c_set_same (h_of c5)))
      rw [← e5, List.length_append] at HW6 HT6 HN6
      rw [e5] at HW6
      simp only [List.append_assoc, List.length_append] at HW6 HT6 HN6
      clear hO6 hN5
      first
        | (go_roundw
           case rel => exact ⟨k + 1, by omega, by go_num, HW6, HT6, HN6⟩
           case measure => simp [intOf]; omega)
        | (refine ⟨⟨k + 1, by omega, by go_num, HW6, HT6, HN6⟩, ?_⟩
           simp [intOf]; omega)
    · have hke : k = l.length := by omega
      subst hke
      have hO := HW.out
      rw [List.take_length] at hO
      have HO := Lib.hid hO
      clear hO
      go_wp2_with fail
      refine bodyPost_end (v := .tuple #[]) (by simp [results, Tryz.results52, go_sem]) rfl ⟨rfl, HO.out, HT.out, HN.out⟩
end Go.Proofs.YtepjehcmiofehaaGreat
