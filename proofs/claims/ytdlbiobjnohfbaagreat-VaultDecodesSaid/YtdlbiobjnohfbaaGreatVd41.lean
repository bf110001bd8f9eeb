/- vault: what Decode makes of bytes, pure. The document's own Reader: so many bytes, and rows of bytes. -/
import Derived.Test.YtdlbiobjnohfbaaGreatVd24
import Derived.Test.YtdlbiobjnohfbaaGreatVd31
namespace Go.Proofs.YtdlbiobjnohfbaaGreat
open Go.RowKit Go.ChangeMaps Go.MapKept
set_option linter.unusedVariables false
set_option linter.unusedSimpArgs false
abbrev Rs := Option (List Nat)
/-- four numbers, and what is left -/
def itR (s : Rs) : It4 := (((nx s).1 : Int), ((nx (nx s).2).1 : Int), ((nx (nx (nx s).2).2).1 : Int), ((nx (nx (nx (nx s).2).2).2).1 : Int))
def itE (s : Rs) : Rs := (nx (nx (nx (nx s).2).2).2).2
/-- may a purse stand behind that name? -/
def rowOk (a : By) (k : ByteArray) (i : It4) : Prop := BL a k.data.toList ∧ i ≠ z4 ∧ mayB k i = true
instance (a : By) (k : ByteArray) (i : It4) : Decidable (rowOk a k i) := inferInstanceAs (Decidable (_ ∧ _ ∧ _))
/-- purses out of bytes -/
def rS : Nat → By → Rs → List Hd × Rs
  | 0, _, s => ([], s)
  | n + 1, a, s => if s ≠ none ∧ itE (nb s).2 ≠ none ∧ rowOk a (strU (nb s).1) (itR (nb s).2) then
      (((strU (nb s).1).data.toList, itR (nb s).2) :: (rS n (strU (nb s).1).data.toList (itE (nb s).2)).1, (rS n (strU (nb s).1).data.toList (itE (nb s).2)).2) else ([], none)
/-- an order out of bytes -/
def odR (s : Rs) : Od := ⟨((nx s).1 : Int), strU (nb (nx s).2).1, decide ((itR (nb (nx s).2).2).1 = 1), (itR (nb (nx s).2).2).2.1, (itR (nb (nx s).2).2).2.2.1, (itR (nb (nx s).2).2).2.2.2⟩
def odE (s : Rs) : Rs := itE (nb (nx s).2).2
def odF (s : Rs) : Int := (itR (nb (nx s).2).2).1
/-- orders out of bytes -/
def oS : Nat → Rs → List Od × Rs
  | 0, s => ([], s)
  | n + 1, s => if s ≠ none ∧ odE s ≠ none ∧ odF s ≤ 1 then (odR s :: (oS n (odE s)).1, (oS n (odE s)).2) else ([], none)
def vR (xs : List Nat) : List Hd × Rs := rS (nx (some xs)).1 [] (nx (some xs)).2
def vO (xs : List Nat) : List Od × Rs := oS (nx (vR xs).2).1 (nx (vR xs).2).2
def vN (xs : List Nat) : Int := ((nx (vO xs).2).1 : Int)
theorem rS_none : ∀ (n : Nat) (a : By), rS n a none = ([], none)
  | 0, _ => rfl
  | n + 1, a => by simp [rS]
theorem oS_none : ∀ (n : Nat), oS n none = ([], none)
  | 0 => rfl
  | n + 1 => by simp [oS]
theorem oS_len : ∀ (n : Nat) (s : Rs), (oS n s).2 ≠ none → (oS n s).1.length = n
  | 0, s, _ => rfl
  | n + 1, s, h => by
    unfold oS at h ⊢
    split
    · rename_i hc
      rw [if_pos hc] at h
      rw [List.length_cons, oS_len n _ h]
    · rename_i hc
      rw [if_neg hc] at h; exact absurd rfl h
/-- what is left is no longer -/
theorem nx_lenV (s : Rs) : ((nx s).2.getD []).length ≤ (s.getD []).length := by
  cases s with
  | none => simp [nx]
  | some r =>
    simp only [nx]
    cases h : rd 0 0 r with
    | none => simp
    | some p => obtain ⟨n, t⟩ := p; exact (rd_suffix r 0 0 n t h).1
theorem nx_oneV {s : Rs} (h : (nx s).2 ≠ none) : ((nx s).2.getD []).length + 1 ≤ (s.getD []).length := by
  cases s with
  | none => exact absurd rfl h
  | some r =>
    cases r with
    | nil => exact absurd rfl h
    | cons x t =>
      simp only [nx] at h ⊢
      cases hr : rd 0 0 (x :: t) with
      | none => rw [hr] at h; exact absurd rfl h
      | some p =>
        obtain ⟨n, q⟩ := p
        simp only [Option.getD_some, List.length_cons]
        rw [rd] at hr
        split at hr
        · cases hr
        · rename_i hk
          split at hr
          · have := (rd_suffix t _ _ n q hr).1; omega
          · split at hr
            · cases hr
            · simp only [Option.some.injEq, Prod.mk.injEq] at hr
              rw [← hr.2]; exact Nat.le_refl _
theorem nb_ne {s : Rs} (h : (nb s).2 ≠ none) : (nx s).2 ≠ none := by
  intro e
  apply h
  unfold nb
  rw [show nx s = ((nx s).1, (nx s).2) from rfl, e]
theorem nb_lenV (s : Rs) : ((nb s).2.getD []).length ≤ ((nx s).2.getD []).length ∧ (nb s).1.length ≤ (s.getD []).length := by
  have h := nx_lenV s
  unfold nb
  split
  · rename_i n r e
    rw [e] at h ⊢
    simp only [Option.getD_some] at h
    split
    · simp only [Option.getD_some, List.length_drop, List.length_take]; omega
    · simp
  · simp
theorem nx_neV {s : Rs} (h : (nx s).2 ≠ none) : s ≠ none := fun e => h (by rw [e]; rfl)
theorem itE_ne {s : Rs} (h : itE s ≠ none) : ((itE s).getD []).length + 4 ≤ (s.getD []).length ∧ s ≠ none := by
  unfold itE at h ⊢
  have h3 := nx_neV h
  have h2 := nx_neV h3
  have h1 := nx_neV h2
  have a := nx_oneV h
  have b := nx_oneV h3
  have c := nx_oneV h2
  have d := nx_oneV h1
  exact ⟨by omega, nx_neV h1⟩
theorem row_ne {s : Rs} (h : itE (nb s).2 ≠ none) : ((itE (nb s).2).getD []).length + 5 ≤ (s.getD []).length := by
  obtain ⟨h1, h2⟩ := itE_ne h
  have h3 := nx_oneV (nb_ne h2)
  have h4 := (nb_lenV s).1
  omega
theorem odE_ne {s : Rs} (h : odE s ≠ none) : ((odE s).getD []).length + 6 ≤ (s.getD []).length := by
  unfold odE at h ⊢
  obtain ⟨h1, h2⟩ := itE_ne h
  have h3 := nb_ne h2
  have h5 := nx_oneV h3
  have h4 := (nb_lenV (nx s).2).1
  have h6 := nx_oneV (nx_neV h3)
  omega
theorem rS_len5 : ∀ (n : Nat) (a : By) (s : Rs), 5 * (rS n a s).1.length ≤ (s.getD []).length
  | 0, _, _ => by simp [rS]
  | n + 1, a, s => by
    unfold rS
    split
    · rename_i h
      have h1 := row_ne h.2.1
      have h2 := rS_len5 n (strU (nb s).1).data.toList (itE (nb s).2)
      simp only [List.length_cons]; omega
    · simp
/-- purses by names, from a name on -/
def Chn : By → List Hd → Prop
  | _, [] => True
  | a, r :: t => BL a r.1 ∧ r.2 ≠ z4 ∧ isI r.2 = true ∧ KeyOk r.1 ∧ Chn r.1 t
theorem rS_chn : ∀ (n : Nat) (a : By) (s : Rs), Chn a (rS n a s).1
  | 0, _, _ => trivial
  | n + 1, a, s => by
    unfold rS
    split
    · rename_i h
      obtain ⟨_, _, h1, h2, h3⟩ := h
      obtain ⟨k1, k2⟩ := mayB_key h3
      exact ⟨h1, h2, k2, k1, rS_chn n _ _⟩
    · trivial
theorem Chn.lt : ∀ {l : List Hd} {a : By}, Chn a l → ∀ r ∈ l, BL a r.1
  | [], _, _, r, h => by cases h
  | x :: t, a, h, r, hr => by
    obtain ⟨h1, _, _, _, h2⟩ := h
    rcases List.mem_cons.1 hr with rfl | hr
    · exact h1
    · exact BL.trans h1 (h2.lt r hr)
theorem Chn.sorted : ∀ {l : List Hd} {a : By}, Chn a l → SortedH l
  | [], _, _ => List.Pairwise.nil
  | x :: t, a, h => List.Pairwise.cons (fun r hr => h.2.2.2.2.lt r hr) h.2.2.2.2.sorted
theorem Chn.ok {l : List Hd} {a : By} (h : Chn a l) : PmOk l := by
  refine ⟨h.sorted.nodup, ?_⟩
  induction l generalizing a with
  | nil => intro p hp; cases hp
  | cons x t ih =>
    intro p hp
    rcases List.mem_cons.1 hp with rfl | hp
    · exact ⟨h.2.1, h.2.2.1, h.2.2.2.1⟩
    · exact ih h.2.2.2.2 p hp
theorem has_self : ∀ {l : List Hd}, (l.map (·.1)).Nodup → (l.map (·.1)).map (fun k => (k, hasP l k)) = l := by
  intro l hn
  rw [List.map_map]
  conv => rhs; rw [← List.map_id l]
  refine List.map_congr_left (fun p hp => ?_)
  simp only [Function.comp]
  rw [has_mem hn hp]; rfl
theorem pair_eq {α : Type} {R : α → α → Prop} (hirr : ∀ a, ¬ R a a) (htr : ∀ a b c, R a b → R b c → R a c) : ∀ {l m : List α}, l.Perm m → l.Pairwise R → m.Pairwise R → l = m := by
  intro l m hp hl hm
  exact hp.eq_of_pairwise (fun a b _ _ h1 h2 => absurd (htr a b a h1 h2) (hirr a)) hl hm
/-- what is sorted stands so -/
theorem rowsP_self {l : List Hd} (h : SortedH l) : rowsP l = l := by
  have hn := h.nodup
  have e : keysP l = l.map (·.1) := by
    refine pair_eq (R := BL) (fun a e => e.ne rfl) (fun a b c => BL.trans) (sortB_perm _) (keysP_sorted hn) ?_
    rw [List.pairwise_map]; exact h
  unfold rowsP
  rw [e]
  exact has_self hn
theorem put1_new {α β : Type} [DecidableEq α] {k : α} {v : β} : ∀ {l : List (α × β)}, k ∉ l.map (·.1) → put1 k v l = l ++ [(k, v)]
  | [], _ => rfl
  | (a, x) :: r, h => by
    simp only [List.map_cons, List.mem_cons, not_or] at h
    simp only [put1]
    rw [if_neg (fun e => h.1 e.symm), put1_new h.2]; rfl
theorem setP_new {l : Pm} {k : By} {i : It4} (hi : i ≠ z4) (hk : k ∉ l.map (·.1)) : setP l k i = l ++ [(k, i)] := by
  unfold setP
  rw [if_neg hi, put1_new hk]
end Go.Proofs.YtdlbiobjnohfbaaGreat
namespace Go.Proofs.YtdlbiobjnohfbaaGreat
open Go.RowKit
set_option linter.unusedVariables false
set_option linter.unusedSimpArgs false
set_option maxHeartbeats 2000000 in
set_option maxRecDepth 10000 in
theorem rfRawT (b n : Nat) (r : List Nat) (w : World) (hl : r.length ≤ 1000000) (hr : Rd w b r false) (hn : n ≤ r.length) :
    Calls Tryz.prog 92 #[.pointer (some ⟨b, 0, none⟩), .int .i64 n] w fun e w' => ∃ v', e = .returned v' ∧ w'.ownsRow w.heap.size 5 1 v' (r.take n).length (flatU (r.take n)) ∧ Rd w' b (r.drop n) false ∧ Tch b w w' := by
  obtain ⟨i0, hi, hz0, hz1, hz2⟩ := info_parts Tryz.infoByte
  obtain ⟨A, c, h0, hc, hm, hx⟩ := hr.row
  have hlow := hr.low
  have h1 := hr.flag
  have f0 := hr.free 0
  have HR := Lib.hid hr
  have HX := Lib.hid hx
  have hlt : (r.take n).length = n := by rw [List.length_take]; omega
  have HLT := Lib.hid hlt
  have k0 : ¬ ((n : Int) < 0) := by omega
  have k1 : ¬ ((r.length : Int) < (n : Int)) := by omega
  have k2 : (n : Int) ≤ (r.length : Int) := by omega
  have k3 : (n : Int) ≤ (c : Int) := by omega
  have k4 : (0 : Int) ≤ (n : Int) := by omega
  cases A with
  | none =>
    obtain ⟨hr0, hc0⟩ := hx.2.1 rfl
    have hr1 : r = [] := List.eq_nil_of_length_eq_zero hr0
    subst hr1
    obtain rfl : n = 0 := by simpa using hn
    subst hc0
    simp only [List.length_nil] at *
    clear hx hr
    have HXx : Hid (Cells (w.alloc (.cells #[] 5)) w.heap.size none 0 0 1 (flatU [])) := Lib.hid ⟨rfl, (fun _ => ⟨rfl, rfl⟩), fun j u hu => by simp [flatU] at hu⟩
    go_enter Tryz.func92, Tryz.ntmps92
    go_wp2_with (at_builtin; go_must (refine wpList_append_row rfl (.tmp 23) (.tmp 29) 33 rfl w.heap.size 5 i0 (.int .u8 0) 1 1 Tryz.underlying33 hi hz0 hz1 hz2 rfl (by decide) _ 0 [] rfl (World.ownsRow_lit w #[] 0 (Nat.le_refl _) (by decide) rfl) w.heap.size none 0 0 (flatU []) rfl HXx.out (flatU_one _) (by unfold maxLen; omega) (by omega) (by (first | omega | (simp; done) | (simp; omega))) ?_); intro v5 w5 hown5 hb5; have c5 := bkeep hb5 (c_alloc hlow h0) hlow; have g5 := bfree hb5 (f_alloc hlow f0) hlow; have c6 := bkeep hb5 (c_alloc hlow h1) hlow; have hs5 := hb5.size; (try simp at hs5))
    have hB5 : Below w.heap.size w w5 := ((Below.refl w.heap.size w).alloc (Nat.le_refl _) _).trans hb5
    have h6 : w5.ownsRow w.heap.size 5 1 v5 0 (flatU []) := by simpa using hown5
    have R5 := HR.out.touchBelow hB5 hlow
    go_ret
    refine ⟨_, rfl, row_set h6 hlow _, ?_, (Tch.of_fresh b hB5).set _ _⟩
    exact ⟨⟨none, 0, c_set_same (h_of c5), Nat.le_refl _, hm, ⟨rfl, fun _ => ⟨rfl, rfl⟩, fun j u hu => by simp [flatU] at hu⟩⟩, c_set_other (Or.inr (by decide)) R5.flag, fun j => f_set (R5.free j), by simpa [World.setCell] using R5.low⟩
  | some ad =>
    obtain ⟨ab, ao, sp⟩ := ad
    have hsp : sp = none ∨ r = [] := by
      cases r with
      | nil => exact .inr rfl
      | cons x t =>
        obtain ⟨b', o', e, _, _⟩ := hx.2.2 0 (.int .u8 x) rfl
        injection e with e; injection e with e1 e2 e3
        exact .inl e3
    have HXx : Hid (Cells (w.alloc (.cells #[] 5)) w.heap.size (some ⟨ab, ao, sp⟩) n c 1 (flatU (r.take n))) := Lib.hid (cells_keep (cells_takeO hx hn c) ((Below.refl b w).alloc (Nat.le_of_lt hlow) _) (Nat.le_of_lt hlow))
    clear hx hr
    by_cases hcn : n = c
    · subst hcn
      have hrl : r.length = n := by omega
      go_enter Tryz.func92, Tryz.ntmps92
      go_wp2_with (at_builtin; go_must (refine wpList_append_row rfl (.tmp 23) (.tmp 29) 33 rfl w.heap.size 5 i0 (.int .u8 0) 1 1 Tryz.underlying33 hi hz0 hz1 hz2 rfl (by decide) _ 0 [] rfl (World.ownsRow_lit w #[] 0 (Nat.le_refl _) (by decide) rfl) w.heap.size (some ⟨ab, ao, sp⟩) n n (flatU (r.take n)) rfl HXx.out (flatU_one _) (by unfold maxLen; omega) (by omega) (by (first | omega | (simp; done) | (simp; omega))) ?_); intro v5 w5 hown5 hb5; have c5 := bkeep hb5 (c_alloc hlow h0) hlow; have g5 := bfree hb5 (f_alloc hlow f0) hlow; have c6 := bkeep hb5 (c_alloc hlow h1) hlow; have hs5 := hb5.size; (try simp at hs5))
      have hB5 : Below w.heap.size w w5 := ((Below.refl w.heap.size w).alloc (Nat.le_refl _) _).trans hb5
      have h6 : w5.ownsRow w.heap.size 5 1 v5 n (flatU (r.take n)) := by simpa using hown5
      have R5 := HR.out.touchBelow hB5 hlow
      go_ret
      refine ⟨_, rfl, by first | (rw [HLT.out]; exact row_set h6 hlow _) | exact row_set h6 hlow _, Rd.cutAll R5 c5 (by omega), (Tch.of_fresh b hB5).set _ _⟩
    · have q1 : ¬ c = n := fun e => hcn e.symm
      go_enter Tryz.func92, Tryz.ntmps92
      go_wp2_with (at_builtin; go_must (refine wpList_append_row rfl (.tmp 23) (.tmp 29) 33 rfl w.heap.size 5 i0 (.int .u8 0) 1 1 Tryz.underlying33 hi hz0 hz1 hz2 rfl (by decide) _ 0 [] rfl (World.ownsRow_lit w #[] 0 (Nat.le_refl _) (by decide) rfl) w.heap.size (some ⟨ab, ao, sp⟩) n c (flatU (r.take n)) rfl HXx.out (flatU_one _) (by unfold maxLen; omega) (by omega) (by (first | omega | (simp; done) | (simp; omega))) ?_); intro v5 w5 hown5 hb5; have c5 := bkeep hb5 (c_alloc hlow h0) hlow; have g5 := bfree hb5 (f_alloc hlow f0) hlow; have c6 := bkeep hb5 (c_alloc hlow h1) hlow; have hs5 := hb5.size; (try simp at hs5))
      have hB5 : Below w.heap.size w w5 := ((Below.refl w.heap.size w).alloc (Nat.le_refl _) _).trans hb5
      have h6 : w5.ownsRow w.heap.size 5 1 v5 n (flatU (r.take n)) := by simpa using hown5
      have R5 := HR.out.touchBelow hB5 hlow
      have HX1 := Lib.hid (cells_keep HX.out (hB5.mono (Nat.le_of_lt hlow)) (Nat.le_refl _))
      go_ret
      rcases hsp with rfl | rfl
      · exact ⟨_, rfl, by first | (rw [HLT.out]; exact row_set h6 hlow _) | exact row_set h6 hlow _, by rw [add_none]; exact Rd.cut R5 c5 HX1.out hc hm hn, (Tch.of_fresh b hB5).set _ _⟩
      · obtain rfl : n = 0 := by simpa using hn
        refine ⟨_, rfl, row_set h6 hlow _, ?_, (Tch.of_fresh b hB5).set _ _⟩
        exact ⟨⟨_, _, c_set_same (h_of c5), by simp, by omega, ⟨rfl, (fun e => by cases e), fun j u hu => by simp [flatU] at hu⟩⟩, c_set_other (Or.inr (by decide)) R5.flag, fun j => f_set (R5.free j), by simpa [World.setCell] using R5.low⟩
set_option maxHeartbeats 1000000 in
theorem rfRawNoT (b n : Nat) (r : List Nat) (w : World) (hr : Rd w b r false) (hn : r.length < n) (hl : r.length ≤ 1000000) :
    Calls Tryz.prog 92 #[.pointer (some ⟨b, 0, none⟩), .int .i64 n] w fun e w' => e = .returned (.slice none 0 0) ∧ Rd w' b [] true ∧ Tch b w w' := by
  obtain ⟨A, c, h0, hc, hm, hx⟩ := hr.row
  have HR := Lib.hid hr
  have k0 : ¬ ((n : Int) < 0) := by omega
  have k1 : ((r.length : Int) < (n : Int)) := by omega
  clear hx hr
  go_enter Tryz.func92, Tryz.ntmps92
  go_wp2_with fail
  refine (rfBadT b _ _ _ HR.out).mono ?_
  rintro e w1 ⟨rfl, hr1, hb1⟩
  have HR1 := Lib.hid hr1
  have h1 := hr1.flag
  clear hr1
  go_wp2_with fail
  go_ret
  exact ⟨rfl, HR1.out, hb1⟩
set_option maxHeartbeats 1000000 in
theorem rfNb (b : Nat) (st : Option (List Nat)) (w : World) (hr : RS w b st) :
    Calls Tryz.prog 53 #[.pointer (some ⟨b, 0, none⟩)] w fun e w' => ∃ v', e = .returned v' ∧ w'.ownsRow w.heap.size 5 1 v' (nb st).1.length (flatU (nb st).1) ∧ RS w' b (nb st).2 ∧ Tch b w w' := by
  have hlow := hr.low
  have HR := Lib.hid hr
  clear hr
  go_enter Tryz.func53, Tryz.ntmps53
  go_wp2_with fail
  refine (rfNxT b st _ HR.out).mono ?_
  rintro e w1 ⟨rfl, hr1, hb1⟩
  have hs1 := hb1.size
  have hnb := nx_le st
  cases h2 : (nx st).2 with
  | none =>
    have hv : nb st = ([], none) := by
      unfold nb
      rw [show nx st = ((nx st).1, (nx st).2) from rfl, h2]
    rw [h2] at hr1
    have HR1 := Lib.hid hr1
    have HV := Lib.hid hv
    have hf := hr1.rd.flag
    simp only [Option.isNone_none] at hf
    clear hr1 hv h2 hnb
    go_wp2_with fail
    go_ret
    rw [HV.out]
    exact ⟨_, rfl, World.ownsRow_nil _ _ _ _, HR1.out, hb1⟩
  | some r =>
    rw [h2] at hr1
    have hlr := hr1.len
    simp only [Option.getD_some] at hlr
    have hbr := hr1.byt
    simp only [Option.getD_some] at hbr
    have hf := hr1.rd.flag
    simp only [Option.isNone_some] at hf
    generalize hN : (nx st).1 = N at *
    have HR1 := Lib.hid hr1
    by_cases hle : N ≤ r.length
    · have hv : nb st = (r.take N, some (r.drop N)) := by
        unfold nb
        rw [show nx st = ((nx st).1, (nx st).2) from rfl, h2, hN]
        simp only; rw [if_pos hle]
      have HV := Lib.hid hv
      have HBR := Lib.hid hbr
      clear hr1 hv h2 hnb hbr
      go_wp2_with fail
      refine (rfRawT b N r _ (by omega) HR1.out.rd hle).mono ?_
      rintro e w2 ⟨v2, rfl, hown2, hr2, hb2⟩
      have HO := Lib.hid (World.ownsRow.mono hown2 hs1)
      have HR2 := Lib.hid hr2
      clear hown2 hr2
      go_wp2_with fail
      go_ret
      rw [HV.out]
      exact ⟨_, rfl, HO.out, RS.of HR2.out (by rw [List.length_drop]; omega) (fun x hx => HBR.out x (List.mem_of_mem_drop hx)), hb1.trans hb2⟩
    · have hv : nb st = ([], none) := by
        unfold nb
        rw [show nx st = ((nx st).1, (nx st).2) from rfl, h2, hN]
        simp only; rw [if_neg hle]
      have HV := Lib.hid hv
      clear hr1 hv h2 hnb hbr
      go_wp2_with fail
      refine (rfRawNoT b N r _ HR1.out.rd (by omega) (by omega)).mono ?_
      rintro e w2 ⟨rfl, hr2, hb2⟩
      have HR2 := Lib.hid hr2
      clear hr2
      go_wp2_with fail
      go_ret
      rw [HV.out]
      exact ⟨_, rfl, World.ownsRow_nil _ _ _ _, RS.bad HR2.out, hb1.trans hb2⟩
end Go.Proofs.YtdlbiobjnohfbaaGreat
