/- Both Readers, erred or not: one state, one function. A Reader beside a block that is known whole (XBlk's second half, beside XWhl). octet.Writer's Bytes; texts as bytes. octet's Writer.Bytes, with frames by touched blocks. octet's Writer, step by step: what it -/
import Derived.Lib.ConvBytes
import Derived.Lib.AtoiErrMem
import Derived.Deep.Onto
import Derived.Test.YtepjehcmiofehaaPq5
namespace Go.Proofs.Ytepjehcmiofehaa
open Go.RowKit
set_option linter.unusedVariables false
set_option linter.unusedSimpArgs false
theorem rd_suffix : ∀ (l : List Nat) (i acc n : Nat) (r : List Nat), rd i acc l = some (n, r) → r.length ≤ l.length ∧ (∀ x ∈ r, x ∈ l) ∧ n ≤ 4611686018427387904 := by
  intro l
  induction l with
  | nil => intro i acc n r h; simp [rd] at h
  | cons b t ih =>
    intro i acc n r h
    rw [rd] at h
    split at h
    · cases h
    · split at h
      · obtain ⟨h1, h2, h3⟩ := ih _ _ _ _ h
        exact ⟨by simp; omega, fun x hx => by simp [h2 x hx], h3⟩
      · split at h
        · cases h
        · rename_i hc
          injection h with h; injection h with h1 h2; subst h1 h2
          exact ⟨by simp, fun x hx => by simp [hx], by omega⟩
/-- one number out of what is left; none: it erred -/
def nx : Option (List Nat) → Nat × Option (List Nat)
  | none => (0, none)
  | some r => match rd 0 0 r with
    | none => (0, none)
    | some (n, t) => (n, some t)
/-- a Reader in a state -/
structure RS (w : World) (b : Nat) (st : Option (List Nat)) : Prop where
  rd : Rd w b (st.getD []) st.isNone
  len : (st.getD []).length ≤ 100000
  byt : ∀ x ∈ st.getD [], x < 256
theorem RS.of {w : World} {b : Nat} {r : List Nat} (h : Rd w b r false) (hl : r.length ≤ 100000) (hb : ∀ x ∈ r, x < 256) : RS w b (some r) := ⟨h, hl, hb⟩
theorem RS.bad {w : World} {b : Nat} (h : Rd w b [] true) : RS w b none := ⟨h, by simp, by simp⟩
theorem nx_le (st : Option (List Nat)) : (nx st).1 ≤ 4611686018427387904 := by
  cases st with
  | none => simp [nx]
  | some r =>
    simp only [nx]
    cases h : rd 0 0 r with
    | none => simp
    | some p => obtain ⟨n, t⟩ := p; exact (rd_suffix r 0 0 n t h).2.2
theorem nx_enc {n : Nat} (h : n ≤ 4611686018427387904) (r : List Nat) : nx (some (enc n ++ r)) = (n, some r) := by
  have := rd_enc n 0 0 r (fun h => absurd h (by omega)) (by simpa using h)
  simp only [Nat.pow_zero, Nat.mul_one, Nat.zero_add] at this
  simp only [nx, this]
theorem Rd.touchBelow {w w' : World} {b B : Nat} {rest : List Nat} {bad : Bool} (h : Rd w b rest bad) (hb : Below B w w') (hB : b < B) : Rd w' b rest bad := by
  obtain ⟨A, c, h0, h1, h2, h3⟩ := h.row
  exact ⟨⟨A, c, bkeep hb h0 hB, h1, h2, cells_keep h3 (hb.mono (Nat.le_of_lt hB)) (Nat.le_refl _)⟩, bkeep hb h.flag hB, fun j => bfree hb (h.free j) hB, Nat.lt_of_lt_of_le h.low hb.size⟩
theorem RS.below {w w' : World} {b B : Nat} {st : Option (List Nat)} (h : RS w b st) (hb : Below B w w') (hB : b < B) : RS w' b st := ⟨h.rd.touchBelow hb hB, h.len, h.byt⟩
theorem RS.low {w : World} {b : Nat} {st : Option (List Nat)} (h : RS w b st) : b < w.heap.size := h.rd.low
theorem numPost_of {w' : World} {b : Nat} {e : Ending} {r : List Nat} (hl : r.length ≤ 100000) (h256 : ∀ x ∈ r, x < 256) (h : NumPost w' b e (rd 0 0 r)) : e = .returned (.int .i64 (nx (some r)).1) ∧ RS w' b (nx (some r)).2 := by
  cases hr : rd 0 0 r with
  | none => rw [hr] at h; simp only [nx, hr]; exact ⟨h.1, RS.bad h.2⟩
  | some p =>
    obtain ⟨n, t⟩ := p
    rw [hr] at h
    obtain ⟨h1, h2, _⟩ := rd_suffix r 0 0 n t hr
    simp only [nx, hr]
    exact ⟨h.1, RS.of h.2 (by omega) (fun x hx => h256 x (h2 x hx))⟩
/-- nothing erred, and nothing is left -/
def allOf (st : Option (List Nat)) : Bool := match st with | some [] => true | _ => false
theorem octAll (b : Nat) (st : Option (List Nat)) (w : World) (hr : RS w b st) :
    Calls Try.prog 50 #[.pointer (some ⟨b, 0, none⟩)] w fun e w' => e = .returned (.bool (allOf st)) ∧ w = w' :=
  (rdWhole b _ _ w hr.rd (Nat.le_trans hr.len (by decide))).mono fun e w' ⟨he, hw⟩ => ⟨by rw [he]; cases st with | none => rfl | some r => cases r <;> rfl, hw⟩
/-- a Reader over any slice of bytes -/
theorem octNew (A : Option Addr) (c : Nat) (xs : List Nat) (w : World) (hn : xs.length ≤ 100000) (h256 : ∀ x ∈ xs, x < 256) (hx : Cells w w.heap.size A xs.length c 1 (flatU xs)) :
    Calls Try.prog 47 #[.slice A xs.length c] w fun e w' => ∃ b, e = .returned (.pointer (some ⟨b, 0, none⟩)) ∧ w.heap.size ≤ b ∧ RS w' b (some xs) ∧ Below w.heap.size w w' := by
  cases A with
  | none =>
    obtain ⟨h1, h2⟩ := hx.2.1 rfl
    obtain rfl : xs = [] := List.eq_nil_of_length_eq_zero h1
    exact (newReader0 0 c w).mono fun e w' ⟨b, he, hb, hr, hB⟩ => ⟨b, he, hb, RS.of hr (by simp) (by simp), hB⟩
  | some ad => exact (newReader1 ad c xs w (by omega) hx).mono fun e w' ⟨b, he, hb, hr, hB⟩ => ⟨b, he, hb, RS.of hr hn h256, hB⟩
end Go.Proofs.Ytepjehcmiofehaa
namespace Go.Proofs.Ytepjehcmiofehaa
open Go.RowKit
set_option linter.unusedVariables false
set_option linter.unusedSimpArgs false
/-- none of the cells is a byte -/
def noU8 (cs : Array Value) : Prop := ∀ (i : Nat) (x : Int), cs[i]? ≠ some (.int .u8 x)
theorem flatU_is {xs : List Nat} {j : Nat} {u : Value} (h : (flatU xs)[j]? = some u) : ∃ x : Int, u = .int .u8 x := by
  simp only [flatU, List.getElem?_map, Option.map_eq_some_iff] at h
  obtain ⟨x, _, rfl⟩ := h
  exact ⟨_, rfl⟩
theorem RS.setBlk {w : World} {b g i : Nat} {t : TypeId} {cs : Array Value} {st : Option (List Nat)} (h : RS w b st) (hg : Whl w g t cs) (hn : noU8 cs) (hne : g ≠ b) (v : Value) : RS (w.setCell ⟨g, i, none⟩ v) b st := by
  obtain ⟨A, c, h0, h1, h2, h3⟩ := h.rd.row
  refine ⟨⟨⟨A, c, c_set_other (Or.inl hne) h0, h1, h2, h3.1, h3.2.1, fun j u hu => ?_⟩, c_set_other (Or.inl hne) h.rd.flag, fun j => f_set (h.rd.free j), by have := h.low; simpa [World.setCell] using this⟩, h.len, h.byt⟩
  obtain ⟨q, o, e, hq, hc⟩ := h3.2.2 j u hu
  refine ⟨q, o, e, hq, c_set_other (Or.inl ?_) hc⟩
  rintro rfl
  obtain ⟨x, rfl⟩ := flatU_is hu
  rw [hg.cell] at hc
  exact hn _ _ hc
theorem RS.alloc {w : World} {b : Nat} {st : Option (List Nat)} (h : RS w b st) (o : Obj) : RS (w.alloc o) b st := h.below (B := w.heap.size) ((Below.refl _ _).alloc (Nat.le_refl _) _) h.low
end Go.Proofs.Ytepjehcmiofehaa
namespace Go.Proofs.Ytepjehcmiofehaa
open Go.RowKit
set_option linter.unusedVariables false
set_option linter.unusedSimpArgs false
def encb (l : List (List Nat)) : List Nat := l.flatMap fun x => enc x.length ++ x
theorem encb_snoc {l : List (List Nat)} {k : Nat} (h : k < l.length) : encb (l.take (k + 1)) = encb (l.take k) ++ (enc l[k].length ++ l[k]) := by
  unfold encb
  rw [List.take_succ_eq_append_getElem h, List.flatMap_append, List.flatMap_singleton]
theorem clamp_nat {n : Nat} (h : n ≤ 1000000) : clamp (n : Int) = n := by unfold clamp; omega
theorem Wr.below {w w' : World} {b base : Nat} {xs : List Nat} (h : Wr w b base xs) (hb : Below w.heap.size w w') : Wr w' b base xs := by
  obtain ⟨⟨s, hs, ho⟩, hf, hl, hh⟩ := h
  have h1 : b < w.heap.size := by omega
  exact ⟨⟨s, bkeep hb hs h1, row_below ho hb⟩, bfree hb hf h1, hl, Nat.le_trans hh hb.size⟩
/-- a text as bytes -/
def bs (s : ByteArray) : List Nat := s.data.toList.map UInt8.toNat
theorem bs_length (s : ByteArray) : (bs s).length = s.size := by simp [bs]
@[go_sem] theorem bw_cell (w : World) (e : TypeId) (s : ByteArray) (n i : Nat) : (Lib.bytesWorld w e s).cell? ⟨n, i, none⟩ = if n < w.heap.size then w.cell? ⟨n, i, none⟩ else cellElse (Lib.bytesWorld w e s) n i := by
  by_cases h : n < w.heap.size
  · rw [if_pos h]; exact Lib.bytesWorld_old w e s ⟨n, i, none⟩ h
  · rw [if_neg h]; rfl
@[go_sem] theorem bw_frozen (w : World) (e : TypeId) (s : ByteArray) (n i : Nat) : (Lib.bytesWorld w e s).frozen? ⟨n, i, none⟩ = if n < w.heap.size then w.frozen? ⟨n, i, none⟩ else frozenElse (Lib.bytesWorld w e s) n i := by
  by_cases h : n < w.heap.size
  · rw [if_pos h]; exact World.frozen?_of_block (w := w) (a := ⟨n, i, none⟩) (Lib.bytesWorld_at_old w e s n h)
  · rw [if_neg h]; rfl
@[simp, go_sem] theorem bw_size (w : World) (e : TypeId) (s : ByteArray) : (Lib.bytesWorld w e s).heap.size = w.heap.size + 1 := Lib.bytesWorld_size w e s
theorem bw_below (w : World) (e : TypeId) (s : ByteArray) : Below w.heap.size w (Lib.bytesWorld w e s) := Lib.bytesWorld_below w e s
theorem bw_cells (w : World) (e : TypeId) (s : ByteArray) (B c : Nat) (hB : w.heap.size < B) : Cells (Lib.bytesWorld w e s) B (some ⟨w.heap.size, 0, none⟩) (bs s).length c 1 (flatU (bs s)) := by
  refine ⟨by simp [flatU], (fun e => by cases e), fun j u hu => ⟨w.heap.size, 0, rfl, hB, ?_⟩⟩
  have hj : j < s.size := by have := (List.getElem?_eq_some_iff.1 hu).1; simpa [flatU, bs_length] using this
  rw [Nat.zero_add, Lib.bytesWorld_cell w e s j hj, ← hu]
  have hj2 : j < s.data.toList.length := by simpa using hj
  simp only [flatU, bs, List.map_map, List.getElem?_map, List.getElem?_eq_getElem hj2, Option.map_some, List.getD, Option.getD_some, Function.comp]
end Go.Proofs.Ytepjehcmiofehaa
namespace Go.Proofs.Ytepjehcmiofehaa
open Go.RowKit
set_option linter.unusedVariables false
set_option linter.unusedSimpArgs false
/-- a slice of slices of bytes that reads as a list, apart from a Writer -/
def RowsAt (w : World) (b : Nat) (A : Option Addr) (l : List (List Nat)) : Prop :=
  ∀ k (h : k < l.length), ∃ q o Ak ck, A = some ⟨q, o, none⟩ ∧ ¬ WD w b q ∧ w.cell? ⟨q, o + k, none⟩ = some (.slice Ak l[k].length ck) ∧ Cells w w.heap.size Ak l[k].length ck 1 (flatU l[k]) ∧ ∀ a, Ak = some a → ¬ WD w b a.block
set_option maxHeartbeats 2000000 in
set_option maxRecDepth 10000 in
theorem wBytesT (b base : Nat) (A : Option Addr) (c : Nat) (l : List (List Nat)) (xs : List Nat) (w : World) (hl : l.length ≤ 1000) (h1000 : ∀ x ∈ l, x.length ≤ 10000) (hxs : ∀ k, k ≤ l.length → xs.length + (encb (l.take k)).length ≤ 100000) (hw : Wr w b base xs) (hx : RowsAt w b A l) :
    Calls Try.prog 53 #[.pointer (some ⟨b, 0, none⟩), .slice A l.length c] w fun e w' => e = .returned (.tuple #[]) ∧ Wr w' b base (xs ++ encb l) ∧ Touch (WD w b) w w' ∧ WNear w b w' := by
  obtain ⟨i0, hi, hz0, hz1, hz2⟩ := info_parts Try.infoByte
  have HX := Lib.hid hx
  have HW0 := Lib.hid hw
  have H1 := Lib.hid h1000
  have H2 := Lib.hid hxs
  clear hx hw h1000 hxs
  go_enter Try.func53, Try.ntmps53
  go_wp2_with fail
  go_loopw [10] (fun i wr => ∃ k : Nat, k ≤ l.length ∧ i = .int .i64 k ∧ Hid (Wr wr b base (xs ++ encb (l.take k))) ∧ Hid (Touch (WD w b) w wr) ∧ Hid (WNear w b wr)) (fun i _ => l.length - (intOf i).toNat)
  case atStart => exact ⟨0, by omega, rfl, Lib.hid (by simpa [encb] using HW0.out), Lib.hid (Touch.refl _ _), Lib.hid (WNear.refl _ _)⟩
  case round =>
    obtain ⟨k, hk, rfl, HW, HT, HN⟩ := hrel
    by_cases hlt : k < l.length
    · obtain ⟨b1, o, Ak, ck, rfl, hb, h1, h2, h2b⟩ := HX.out k hlt
      replace h1 := HT.out.cell h1 hb
      have hsz := HT.out.size
      have hC0 := HT.out.cells h2 h2b
      have hlk : l[k].length ≤ 10000 := H1.out _ (List.getElem_mem _)
      have hq := H2.out k hk
      obtain ⟨⟨s, hs, hown⟩, hfr, hlow, hhigh⟩ := HW.out
      have HO := Lib.hid hown
      have hi1 : (k : Int) < (l.length : Int) := by omega
      have hsb : ¬ s.ownBlock = some b := fun e => by have := (hown.lt b e).1; omega
      have hAs : ∀ a, Ak = some a → a.block < w.heap.size → ¬ s.ownBlock = some a.block := fun a ha hlt2 e => h2b a ha (Or.inr (HN.out.old _ hlt2 ((wrow_of hs).trans e)))
      have hAl : l[k].length ≠ 0 → ∀ a, Ak = some a → a.block < w.heap.size := by
        intro hne a ha
        have hpos : 0 < (flatU l[k]).length := by simp [flatU]; omega
        obtain ⟨bb, oo, ee, hlt3, _⟩ := h2.2.2 0 _ (List.getElem?_eq_getElem hpos)
        rw [ee] at ha; injection ha with ha; subst ha; exact hlt3
      have hC1 : ∀ W, Touch (fun k => s.ownBlock = some k) wr W → Cells W w.heap.size Ak l[k].length ck 1 (flatU l[k]) := by
        intro W ht
        refine ⟨hC0.1, hC0.2.1, fun j u hu => ?_⟩
        obtain ⟨bb, oo, ee, hlt3, hcc⟩ := hC0.2.2 j u hu
        exact ⟨bb, oo, ee, hlt3, ht.cell hcc (hAs _ ee hlt3)⟩
      have HC1 := Lib.hid hC1
      clear hown h2 hC0 hC1 hAl hAs
      go_wp2_with fail
      refine (octAppendT s _ _ (l[k].length : Int) base _ (by rw [List.length_append]; omega) hhigh HO.out).mono ?_
      rintro e w3 ⟨v3, rfl, hown3, ht3, hn3⟩
      have hs3 := ht3.size
      rw [clamp_nat (by omega), ← flatU_app, ← List.length_append] at hown3
      have HO3 := Lib.hid hown3
      have c3 := ht3.cell hs hsb
      have f3 := ht3.frozen (by omega) hfr hsb
      have HC3 := Lib.hid (HC1.out w3 ht3)
      have hen : (enc l[k].length).length ≤ 10 := enc_len (by omega)
      have hln : (xs ++ encb (l.take k) ++ enc l[k].length).length ≤ 200000 := by simp only [List.length_append]; omega
      have hsb3 : ¬ v3.ownBlock = some b := fun e => by have := (hown3.lt b e).1; omega
      have HT3 := Lib.hid (HT.out.trans ht3 (fun n h1 h2 => (Or.inr (HN.out.old n h1 ((wrow_of hs).trans h2)) : WD w b n)))
      have HN3 := Lib.hid hn3
      clear hown3 hn3
      go_wp2_with (at_builtin; go_must (refine wpList_append_touch rfl (.tmp 21) (.tmp 22) 47 rfl base 5 i0 (.int .u8 0) 1 1 Try.underlying47 hi hz0 hz1 hz2 rfl (by decide) v3 _ _ rfl HO3.out w.heap.size Ak l[k].length ck (flatU l[k]) rfl HC3.out (flatU_one _) (by unfold maxLen; omega) (by omega) (by omega) ?_); intro v5 w5 hown5 ht5 hl5; have c5 := ht5.cell c3 hsb3; have f5 := ht5.frozen (by omega) f3 hsb3; have hs5 := ht5.size; have HN5 := Lib.hid (HN3.out.step hs3 hl5); have HT5 := Lib.hid (HT3.out.trans ht5 (fun n h1 h2 => (Or.inr (HN.out.old n h1 ((wrow_of hs).trans (HN3.out.old n (by omega) h2))) : WD w b n))); obtain ⟨A5, cp5, rfl, -, -, -⟩ := row_cells hown5; have HO5 := Lib.hid hown5; clear hown5)
      have e5 : xs ++ encb (l.take k) ++ enc l[k].length ++ l[k] = xs ++ encb (l.take (k + 1)) := by rw [encb_snoc hlt]; simp only [List.append_assoc]
      have hO6 := HO5.out
      rw [← flatU_app, ← List.length_append, e5] at hO6
      have hN5 := HN5.out
      rw [← List.length_append, e5] at hN5
      have HW6 : Hid (Wr (w5.setCell ⟨b, 0, none⟩ (.slice A5 (xs ++ encb (l.take (k + 1))).length cp5)) b base (xs ++ encb (l.take (k + 1)))) := Lib.hid ⟨⟨_, c_set_same (h_of c5), row_set hO6 hlow _⟩, f_set f5, hlow, by simp; omega⟩
      have HT6 : Hid (Touch (WD w b) w (w5.setCell ⟨b, 0, none⟩ (.slice A5 (xs ++ encb (l.take (k + 1))).length cp5))) := Lib.hid (HT5.out.set (fun _ => Or.inl rfl))
      have HN6 : Hid (WNear w b (w5.setCell ⟨b, 0, none⟩ (.slice A5 (xs ++ encb (l.take (k + 1))).length cp5))) := Lib.hid (HN.out.step (w2 := w5) hsz hs hN5 (c_set_same (h_of c5)))
      rw [← e5, List.length_append] at HW6 HT6 HN6
      rw [e5] at HW6
      simp only [List.append_assoc, List.length_append] at HW6 HT6 HN6
      clear hO6 hN5
      first
        | (go_roundw
           case rel => exact ⟨k + 1, by omega, by go_num, HW6, HT6, HN6⟩
           case measure => simp [intOf]; omega)
        | (refine ⟨⟨k + 1, by omega, by go_num, HW6, HT6, HN6⟩, ?_⟩
           simp [intOf]; omega)
    · have hke : k = l.length := by omega
      subst hke
      have hO := HW.out
      rw [List.take_length] at hO
      have HO := Lib.hid hO
      clear hO
      go_wp2_with fail
      refine bodyPost_end (v := .tuple #[]) (by simp [results, Try.results53, go_sem]) rfl ⟨rfl, HO.out, HT.out, HN.out⟩
end Go.Proofs.Ytepjehcmiofehaa
namespace Go.Proofs.Ytepjehcmiofehaa
open Go.RowKit
set_option linter.unusedVariables false
set_option linter.unusedSimpArgs false
theorem wrow_belowH {w w' : World} {b B : Nat} (h : Below B w w') (hb : b < B) : wrow w' b = wrow w b := by
  unfold wrow
  rw [World.cell?_of_block (a := ⟨b, 0, none⟩) (h.block b hb)]
theorem Wr.farH {w : World} {b base : Nat} {xs : List Nat} (h : Wr w b base xs) {g : Nat} (hg : w.heap.size ≤ g) : ¬ WD w b g := by
  obtain ⟨⟨s, hs, ho⟩, _, h1, h2⟩ := h
  rintro (e | e)
  · omega
  · rw [wrow_of hs] at e
    have := (ho.lt g e).2
    omega
theorem Wr.geH {w : World} {b base : Nat} {xs : List Nat} (h : Wr w b base xs) : ∀ k, WD w b k → b ≤ k := by
  obtain ⟨⟨s, hs, ho⟩, _, h1, h2⟩ := h
  rintro k (e | e)
  · omega
  · rw [wrow_of hs] at e
    have := (ho.lt k e).1
    omega
theorem Wr.lowH {w : World} {b base : Nat} {xs : List Nat} (h : Wr w b base xs) : b < w.heap.size := by have := h.low; have := h.high; omega
/-- what happened beside a Writer: only it and its row, or what was new, changed -/
structure WT (b : Nat) (w w' : World) : Prop where
  t : Touch (WD w b) w w'
  n : WNear w b w'
theorem WT.refl (b : Nat) (w : World) : WT b w w := ⟨Touch.refl _ _, WNear.refl _ _⟩
theorem WT.trans {b : Nat} {w w1 w2 : World} (h : WT b w w1) (k : WT b w1 w2) : WT b w w2 :=
  ⟨h.t.trans k.t (fun n hn hd => by
    rcases hd with e | e
    · exact .inl e
    · exact .inr (h.n.old n hn e)), h.n.trans h.t.size k.n⟩
theorem WT.size {b : Nat} {w w' : World} (h : WT b w w') : w.heap.size ≤ w'.heap.size := h.t.size
theorem WT.below {b : Nat} {w w' : World} (hb : b < w.heap.size) (h : Below w.heap.size w w') : WT b w w' :=
  ⟨(Touch.of_below h).mono'' (fun k h1 h2 => absurd h2 (by omega)), .inl (wrow_belowH h hb)⟩
theorem WT.alloc {b : Nat} {w w' : World} (h : WT b w w') (hb : b < w'.heap.size) (o : Obj) : WT b w (w'.alloc o) := h.trans (WT.below hb ((Below.refl _ _).alloc (Nat.le_refl _) _))
/-- a block apart from it stays, and stays apart -/
theorem WT.far {b k : Nat} {w w' : World} (h : WT b w w') (hk : k < w.heap.size) (hd : ¬ WD w b k) : ¬ WD w' b k := by
  rintro (e | e)
  · exact hd (.inl e)
  · exact hd (.inr (h.n.old k hk e))
theorem WT.whl {b k : Nat} {w w' : World} (h : WT b w w') {t : TypeId} {cs : Array Value} (hw : Whl w k t cs) (hd : ¬ WD w b k) : Whl w' k t cs := (h.t.block k hw.low hd).trans hw
theorem WT.base {b base : Nat} {xs : List Nat} {w w' : World} (h : WT b w w') (hw : Wr w b base xs) : Below b w w' := h.t.below (by have := hw.lowH; omega) hw.geH
theorem Wr.allocH {w : World} {b base : Nat} {xs : List Nat} (h : Wr w b base xs) (o : Obj) : Wr (w.alloc o) b base xs := h.below ((Below.refl _ _).alloc (Nat.le_refl _) _)
theorem numsAt_new {w : World} {b : Nat} {e : TypeId} {l : List Int} {cs : Array Value} (hl : cs = (l.map (Value.int .i64)).toArray) (hd : ¬ WD (w.alloc (.cells cs e)) b w.heap.size) : NumsAt (w.alloc (.cells cs e)) b (some ⟨w.heap.size, 0, none⟩) l := by
  intro k hk
  refine ⟨_, _, rfl, hd, ?_⟩
  rw [Nat.zero_add, cell_of_row _ _ _ _ _ _ (heap_alloc_new w _)]
  subst hl
  simp [hk]
theorem bw_cellsH (w : World) (e : TypeId) (s : ByteArray) (c : Nat) : Cells (Lib.bytesWorld w e s) (Lib.bytesWorld w e s).heap.size (some ⟨w.heap.size, 0, none⟩) (bs s).length c 1 (flatU (bs s)) := bw_cells w e s _ c (by simp)
theorem Wr.farA {w : World} {b base : Nat} {xs : List Nat} (h : Wr w b base xs) (o : Obj) : ¬ WD (w.alloc o) b w.heap.size := by
  have e : wrow (w.alloc o) b = wrow w b := wrow_belowH ((Below.refl _ _).alloc (Nat.le_refl _) _) h.lowH
  rintro (h1 | h1)
  · have := h.lowH; omega
  · rw [e] at h1
    exact h.farH (Nat.le_refl _) (.inr h1)
/-- numbers -/
theorem wNumsH {b base n : Nat} {l : List Int} {cs : Array Value} {xs : List Nat} {W : World} (c : Nat) (hn : n = W.heap.size) (hl : l.length ≤ 100) (hcs : cs = (l.map (Value.int .i64)).toArray) (hxs : xs.length ≤ 100000) (hw : Wr W b base xs) :
    Calls Try.prog 52 #[.pointer (some ⟨b, 0, none⟩), .slice (some ⟨n, 0, none⟩) l.length c] (W.alloc (.cells cs 3)) fun e w' => e = .returned (.tuple #[]) ∧ Wr w' b base (xs ++ encs l) ∧ WT b W w' := by
  subst hn
  refine (wNumsT b base _ c l xs _ (by omega) hxs (hw.allocH _) (numsAt_new hcs (hw.farA _))).mono ?_
  rintro e w' ⟨h1, h2, h3, h4⟩
  exact ⟨h1, h2, (WT.refl b W).alloc hw.lowH _ |>.trans ⟨h3, h4⟩⟩
theorem encb_len1 {s : ByteArray} (h : s.size ≤ 10000) : ∀ k, (encb ([bs s].take k)).length ≤ 10010 := by
  intro k
  have e1 := enc_len (n := (bs s).length) (by rw [bs_length]; omega)
  rw [bs_length] at e1
  match k with
  | 0 => simp [encb]
  | k + 1 => simp [encb, bs_length]; omega
theorem encb_len2 {s t : ByteArray} (h : s.size ≤ 10000) (h2 : t.size ≤ 10000) : ∀ k, (encb ([bs s, bs t].take k)).length ≤ 20020 := by
  intro k
  have e1 := enc_len (n := (bs s).length) (by rw [bs_length]; omega)
  have e2 := enc_len (n := (bs t).length) (by rw [bs_length]; omega)
  rw [bs_length] at e1 e2
  match k with
  | 0 => simp [encb]
  | 1 => simp [encb, bs_length]; omega
  | k + 2 => simp [encb, bs_length]; omega
/-- one text -/
theorem wBytesH1 {b base : Nat} {s : ByteArray} {xs : List Nat} {W Y : World} (c p n n3 : Nat) (hY : Y = Lib.bytesWorld W 5 s) (hn : n = W.heap.size) (hn3 : n3 = Y.heap.size) (hs : s.size ≤ 10000) (hxs : xs.length ≤ 80000) (hw : Wr W b base xs) :
    Calls Try.prog 53 #[.pointer (some ⟨b, 0, none⟩), .slice (some ⟨n3, 0, none⟩) 1 c] (Y.alloc (.cells #[.slice (some ⟨n, 0, none⟩) s.size p] 47)) fun e w' => e = .returned (.tuple #[]) ∧ Wr w' b base (xs ++ encb [bs s]) ∧ WT b W w' := by
  subst hn hn3
  have hb1 : Below W.heap.size W Y := by rw [hY]; exact bw_below W _ s
  have hz1 : Y.heap.size = W.heap.size + 1 := by rw [hY]; exact bw_size _ _ _
  have hc1 : ∀ c, Cells Y Y.heap.size (some ⟨W.heap.size, 0, none⟩) (bs s).length c 1 (flatU (bs s)) := fun c => by rw [hY]; exact bw_cellsH W _ s c
  have hw1 : Wr Y b base xs := hw.below hb1
  have hWT : WT b W (Y.alloc (.cells #[.slice (some ⟨W.heap.size, 0, none⟩) s.size p] 47)) := (WT.below hw.lowH hb1).alloc hw1.lowH _
  have hd : ¬ WD (Y.alloc (.cells #[.slice (some ⟨W.heap.size, 0, none⟩) s.size p] 47)) b W.heap.size := by
    have e : wrow (Y.alloc (.cells #[.slice (some ⟨W.heap.size, 0, none⟩) s.size p] 47)) b = wrow W b := (wrow_belowH ((Below.refl _ _).alloc (Nat.le_refl _) _) hw1.lowH).trans (wrow_belowH hb1 hw.lowH)
    rintro (h1 | h1)
    · have := hw.lowH; omega
    · rw [e] at h1
      exact hw.farH (Nat.le_refl _) (.inr h1)
  have hL : (1 : Nat) = [bs s].length := rfl
  rw [hL]
  refine (wBytesT b base _ c [bs s] xs _ (by simp) (fun x hx => by simp at hx; subst hx; rw [bs_length]; exact hs) (fun k hk => by have := encb_len1 hs k; omega) (hw1.allocH _) ?_).mono ?_
  · intro k hk
    have hk0 : k = 0 := by simp at hk; omega
    subst hk0
    refine ⟨Y.heap.size, 0, some ⟨W.heap.size, 0, none⟩, p, rfl, hw1.farA _, ?_, ?_, fun a ha => by injection ha with ha; subst ha; exact hd⟩
    · rw [Nat.add_zero, cell_of_row _ _ _ _ _ _ (heap_alloc_new Y _)]
      show some _ = some _
      simp [bs_length]
    · exact cells_keep (hc1 p) ((Below.refl _ _).alloc (Nat.le_refl _) _) (by simp)
  · rintro e w' ⟨h1, h2, h3, h4⟩
    exact ⟨h1, h2, hWT.trans ⟨h3, h4⟩⟩
/-- two texts -/
theorem wBytesH2 {b base : Nat} {s t : ByteArray} {xs : List Nat} {W Y Z : World} (c p q n n2 n3 : Nat) (hY : Y = Lib.bytesWorld W 5 s) (hZ : Z = Lib.bytesWorld Y 5 t) (hn : n = W.heap.size) (hn2 : n2 = Y.heap.size) (hn3 : n3 = Z.heap.size) (hs : s.size ≤ 10000) (ht : t.size ≤ 10000) (hxs : xs.length ≤ 70000) (hw : Wr W b base xs) :
    Calls Try.prog 53 #[.pointer (some ⟨b, 0, none⟩), .slice (some ⟨n3, 0, none⟩) 2 c] (Z.alloc (.cells #[.slice (some ⟨n, 0, none⟩) s.size p, .slice (some ⟨n2, 0, none⟩) t.size q] 47)) fun e w' => e = .returned (.tuple #[]) ∧ Wr w' b base (xs ++ encb [bs s, bs t]) ∧ WT b W w' := by
  subst hn hn2 hn3
  have hb1 : Below W.heap.size W Y := by rw [hY]; exact bw_below W _ s
  have hz1 : Y.heap.size = W.heap.size + 1 := by rw [hY]; exact bw_size _ _ _
  have hc1 : ∀ c, Cells Y Y.heap.size (some ⟨W.heap.size, 0, none⟩) (bs s).length c 1 (flatU (bs s)) := fun c => by rw [hY]; exact bw_cellsH W _ s c
  have hb2 : Below Y.heap.size Y Z := by rw [hZ]; exact bw_below Y _ t
  have hz2 : Z.heap.size = Y.heap.size + 1 := by rw [hZ]; exact bw_size _ _ _
  have hc2 : ∀ c, Cells Z Z.heap.size (some ⟨Y.heap.size, 0, none⟩) (bs t).length c 1 (flatU (bs t)) := fun c => by rw [hZ]; exact bw_cellsH Y _ t c
  have hw1 : Wr Y b base xs := hw.below hb1
  have hw2 : Wr Z b base xs := hw1.below hb2
  obtain ⟨cs, hcs⟩ : ∃ x : Array Value, x = #[.slice (some ⟨W.heap.size, 0, none⟩) s.size p, .slice (some ⟨Y.heap.size, 0, none⟩) t.size q] := ⟨_, rfl⟩
  rw [← hcs]
  have hWT : WT b W (Z.alloc (.cells cs 47)) := ((WT.below hw.lowH hb1).trans (WT.below hw1.lowH hb2)).alloc hw2.lowH _
  have e : wrow (Z.alloc (.cells cs 47)) b = wrow W b := ((wrow_belowH ((Below.refl _ _).alloc (Nat.le_refl _) _) hw2.lowH).trans (wrow_belowH hb2 hw1.lowH)).trans (wrow_belowH hb1 hw.lowH)
  have hd : ∀ k, W.heap.size ≤ k → ¬ WD (Z.alloc (.cells cs 47)) b k := fun k hk => by
    rintro (h1 | h1)
    · have := hw.lowH; omega
    · rw [e] at h1
      exact hw.farH hk (.inr h1)
  have hL : (2 : Nat) = [bs s, bs t].length := rfl
  rw [hL]
  refine (wBytesT b base _ c [bs s, bs t] xs _ (by simp) (fun x hx => by simp at hx; rcases hx with rfl | rfl <;> rw [bs_length] <;> assumption) (fun k hk => by have := encb_len2 hs ht k; omega) (hw2.allocH _) ?_).mono ?_
  · intro k hk
    match k, hk with
    | 0, _ =>
      refine ⟨Z.heap.size, 0, some ⟨W.heap.size, 0, none⟩, p, rfl, hd _ (by omega), ?_, ?_, fun a ha => by injection ha with ha; subst ha; exact hd _ (Nat.le_refl _)⟩
      · rw [Nat.add_zero, cell_of_row _ _ _ _ _ _ (heap_alloc_new Z _), hcs]
        show some _ = some _
        simp [bs_length]
      · exact cells_keep (cells_keep (hc1 p) hb2 (Nat.le_refl _)) ((Below.refl Y.heap.size Z).alloc (by omega) _) (by simp; omega)
    | 1, _ =>
      refine ⟨Z.heap.size, 0, some ⟨Y.heap.size, 0, none⟩, q, rfl, hd _ (by omega), ?_, ?_, fun a ha => by injection ha with ha; subst ha; exact hd _ (by show W.heap.size ≤ Y.heap.size; omega)⟩
      · rw [cell_of_row _ _ _ _ _ _ (heap_alloc_new Z _), hcs]
        show some _ = some _
        simp [bs_length]
      · exact cells_keep (hc2 q) ((Below.refl Z.heap.size Z).alloc (Nat.le_refl _) _) (by simp)
    | k + 2, h => exact absurd h (by simp)
  · rintro e w' ⟨h1, h2, h3, h4⟩
    exact ⟨h1, h2, hWT.trans ⟨h3, h4⟩⟩
end Go.Proofs.Ytepjehcmiofehaa
namespace Go.Proofs.Ytepjehcmiofehaa
open Go.RowKit
set_option linter.unusedVariables false
set_option linter.unusedSimpArgs false
theorem Wr.newH (w : World) : Wr (w.alloc (.cells #[.slice none 0 0] 103)) w.heap.size (w.heap.size + 1) [] := by
  have hc0 : (w.alloc (.cells #[.slice none 0 0] 103)).cell? ⟨w.heap.size, 0, none⟩ = some (.slice none 0 0) := by
    rw [cell_of_row _ _ _ _ _ _ (heap_alloc_new w _)]; rfl
  exact ⟨⟨_, hc0, World.ownsRow_nil _ _ _ _⟩, (Whl.new rfl : Whl (w.alloc (.cells #[.slice none 0 0] 103)) w.heap.size 103 #[.slice none 0 0]).free 0, by omega, by simp⟩
theorem wd_newH {w : World} {k : Nat} (hk : k ≠ w.heap.size) : ¬ WD (w.alloc (.cells #[.slice none 0 0] 103)) w.heap.size k := by
  have hc0 : (w.alloc (.cells #[.slice none 0 0] 103)).cell? ⟨w.heap.size, 0, none⟩ = some (.slice none 0 0) := by
    rw [cell_of_row _ _ _ _ _ _ (heap_alloc_new w _)]; rfl
  rintro (e | e)
  · exact hk e
  · rw [wrow_of hc0] at e; cases e
theorem encs_le (l : List Int) (n : Nat) (h : l.length ≤ n) : (encs l).length ≤ 10 * n := by have := encs_len l; omega
theorem encb_le1 {s : ByteArray} (h : s.size ≤ 10000) : (encb [bs s]).length ≤ 10 + s.size := by
  have e1 := enc_len (n := (bs s).length) (by rw [bs_length]; omega)
  rw [bs_length] at e1
  simp [encb, bs_length]; omega
theorem encb_le2 {s t : ByteArray} (h : s.size ≤ 10000) (h2 : t.size ≤ 10000) : (encb [bs s, bs t]).length ≤ 20 + s.size + t.size := by
  have e1 := enc_len (n := (bs s).length) (by rw [bs_length]; omega)
  have e2 := enc_len (n := (bs t).length) (by rw [bs_length]; omega)
  rw [bs_length] at e1 e2
  simp [encb, bs_length]; omega
end Go.Proofs.Ytepjehcmiofehaa
