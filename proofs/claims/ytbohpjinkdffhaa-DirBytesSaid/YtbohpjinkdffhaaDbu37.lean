/- The document's Bytes, EncodeChange. -/
import Derived.Test.YtbohpjinkdffhaaProg
import Derived.WalkKit
import Derived.WalkSpells
import Derived.WalkLawsBesides
import Derived.Deep.QuietTactic
import Derived.BigQuiet
import Derived.RegionTactic
import Derived.BigRegion
import Derived.Outline
import Derived.LoopTactic
import Derived.Lib.Hide
import Derived.Deep.RegionHeld3
import Derived.Laws.AppendOwnNone
import Derived.Deep.AppendLies
import Derived.Deep.Light
import Derived.Lib.VarintBits
import Derived.Deep.Heap
import Derived.Maps.AppendAt
import Derived.Laws.Rows
import Derived.IntWalk
import Derived.Lib.ConvBytes
import Derived.Lib.AtoiErrMem
import GoSem.Op.String
import Derived.Lib.Strings
import Derived.Deep.Cut
import Derived.StillTailTactics
import Derived.Deep.Onto
import Derived.Laws.BytesArg
import Derived.Test.YtbohpjinkdffhaaDbu0
import Derived.Test.YtbohpjinkdffhaaDbu1
import Derived.Test.YtbohpjinkdffhaaDbu2
import Derived.Test.YtbohpjinkdffhaaDbu3
import Derived.Test.YtbohpjinkdffhaaDbu4
import Derived.Test.YtbohpjinkdffhaaDbu5
import Derived.Test.YtbohpjinkdffhaaDbu6
import Derived.Test.YtbohpjinkdffhaaDbu7
import Derived.Test.YtbohpjinkdffhaaDbu8
import Derived.Test.YtbohpjinkdffhaaDbu11
import Derived.Test.YtbohpjinkdffhaaDbu31
import Derived.Test.YtbohpjinkdffhaaDbu32
import Derived.Test.YtbohpjinkdffhaaDbu34
import Derived.Test.YtbohpjinkdffhaaDbu35
namespace Go.Proofs.Ytbohpjinkdffhaa
open Go.RowKit
set_option linter.unusedVariables false
set_option linter.unusedSimpArgs false
theorem bwc {B : Nat} {a W : World} {s : ByteArray} (h : Below B a (Lib.bytesWorld W 5 s)) : Hid (∀ g c, g = W.heap.size → Cells (Lib.bytesWorld W 5 s) (Lib.bytesWorld W 5 s).heap.size (some ⟨g, 0, none⟩) (bs s).length c 1 (flatU (bs s))) := Lib.hid (fun g c hg => by subst hg; exact bw_cellsH W _ s c)
set_option maxHeartbeats 1000000 in
set_option maxRecDepth 10000 in
theorem refBytes (A : Option Addr) (c n : Nat) (xs : List Nat) (w : World) (hn : xs.length = n) (hl : n ≤ 100000) (hx : ∀ c, Cells w w.heap.size A xs.length c 1 (flatU xs)) :
    Calls Try.prog 49 #[.slice A n c] w fun e w' => ∃ v', e = .returned v' ∧ w'.ownsRow w.heap.size 5 1 v' (enc n ++ xs).length (flatU (enc n ++ xs)) ∧ Below w.heap.size w w' := by
  subst hn
  obtain ⟨i0, hi, hz0, hz1, hz2⟩ := info_parts Try.infoByte
  have HX := Lib.hid (hx c)
  have hel : (enc xs.length).length ≤ 10 := enc_len (by omega)
  clear hx
  go_enter Try.func49, Try.ntmps49
  go_wp2_with fail
  refine (refNum (xs.length : Int) _).mono ?_
  rintro e w1 ⟨v1, rfl, hown1, hb1⟩
  rw [clamp_nat (by omega)] at hown1
  have HO1 := Lib.hid hown1
  have HX1 := Lib.hid (cells_keep HX.out hb1 hb1.size)
  have hs1 := hb1.size
  clear hown1
  go_wp2_with (at_builtin; go_must (refine wpList_append_row rfl (.tmp 5) (.tmp 6) 50 rfl w.heap.size 5 i0 (.int .u8 0) 1 1 Try.underlying50 hi hz0 hz1 hz2 rfl (by decide) v1 (enc xs.length).length (flatU (enc xs.length)) rfl HO1.out w1.heap.size A xs.length c (flatU xs) rfl HX1.out (flatU_one _) (by unfold maxLen; omega) (by omega) (by (first | omega | (simp; done) | (simp; omega))) ?_); intro v5 w5 hown5 hb5)
  rw [← flatU_app, ← List.length_append] at hown5
  have HO5 := Lib.hid hown5
  clear hown5
  go_ret
  exact ⟨_, rfl, HO5.out, hb1.trans hb5⟩
theorem nb_enc {xs : List Nat} (h : xs.length ≤ 4611686018427387904) (r : List Nat) : nb (some (enc xs.length ++ (xs ++ r))) = (xs, some r) := by
  unfold nb
  rw [nx_enc h]
  simp
theorem strU_bs (s : ByteArray) : strU (bs s) = s := by
  have h : (strU (bs s)).data.toList = s.data.toList := by
    unfold strU bs
    rw [strOfNums_data, List.map_map, List.map_map]
    refine (List.map_congr_left (g := fun b => b) (fun b _ => ?_)).trans (List.map_id' _)
    simp [Function.comp]
  have h2 : (strU (bs s)).data = s.data := Array.ext' h
  cases s with
  | mk d => cases hh : strU (bs ⟨d⟩) with | mk d2 => rw [hh] at h2; simp only at h2; rw [h2]
theorem whl_of_alloc' {B : Nat} {a W : World} {t : TypeId} {cs : Array Value} (h : Below B a (W.alloc (.cells cs t))) : Whl (W.alloc (.cells cs t)) W.heap.size t cs := Whl.new rfl
theorem bel_alloc {B : Nat} {a W : World} {x : Obj} (h : Below B a (W.alloc x)) : Below W.heap.size W (W.alloc x) := (Below.refl _ _).alloc (Nat.le_refl _) _
theorem bel_bw {B : Nat} {a W : World} {s : ByteArray} (h : Below B a W) : Below W.heap.size W (Lib.bytesWorld W 5 s) := bw_below W _ s
theorem siz_of {B : Nat} {a W : World} {s : ByteArray} (h : Below B a (Lib.bytesWorld W 5 s)) : (Lib.bytesWorld W 5 s).heap.size = W.heap.size + 1 := bw_size _ _ _
theorem ints3_of {W : World} {g B : Nat} {t : TypeId} {x y z : Int} (h : Whl W g t #[.int .i64 x, .int .i64 y, .int .i64 z]) (hg : g < B) : Ints W B (some ⟨g, 0, none⟩) [x, y, z] := by
  intro k hk
  refine ⟨g, 0, rfl, hg, ?_⟩
  rw [Nat.zero_add, h.cell]
  match k, hk with
  | 0, _ => rfl
  | 1, _ => rfl
  | 2, _ => rfl
theorem ints4_of {W : World} {g B : Nat} {t : TypeId} {x y z u : Int} (h : Whl W g t #[.int .i64 x, .int .i64 y, .int .i64 z, .int .i64 u]) (hg : g < B) : Ints W B (some ⟨g, 0, none⟩) [x, y, z, u] := by
  intro k hk
  refine ⟨g, 0, rfl, hg, ?_⟩
  rw [Nat.zero_add, h.cell]
  match k, hk with
  | 0, _ => rfl
  | 1, _ => rfl
  | 2, _ => rfl
  | 3, _ => rfl
theorem encb_one (s : ByteArray) : enc s.size ++ bs s = encb [bs s] := by simp [encb, bs_length]
set_option maxHeartbeats 8000000 in
set_option maxRecDepth 10000 in
theorem rdEncChange0 (c : Ch) (w : World) (h : ¬ OkCh c) : Calls Try.prog 24 #[.agg #[.int .i64 c.kd, .int .i64 c.zo, .int .i64 c.ep, .int .i64 c.mv, .string c.ky]] w fun e w' => e = .returned (.tuple #[.slice none 0 0, .int .i64 1]) ∧ Below w.heap.size w w' := by
  have HM : Hid (decide (OkCh c) = false) := Lib.hid (decide_eq_false h)
  go_enter Try.func24, Try.ntmps24
  go_wp2_with (first
    | (go_at_call 41; refine (rdMayChange c _).mono ?_; rintro e w1 ⟨rfl, hb1⟩; rw [HM.out]; have HB1 := Lib.hid (Below.trans (show Below w.heap.size w _ by ((repeat (first | (with_reducible exact Below.refl _ _) | (with_reducible assumption) | ((with_reducible refine b_set ?_ ?_); · (first | omega | (simp; done) | (simp; omega))) | ((with_reducible refine b_alloc ?_ ?_); · (first | omega | (simp; done) | (simp; omega))) | (with_reducible refine Below.drew ?_) | (with_reducible refine b_drewN ?_) | ((with_reducible refine b_call (by assumption) ?_ ?_); · (first | omega | (simp; done) | (simp; omega))))); done)) (hb1.mono (by simp))); clear hb1)
    | fail)
  refine bodyPost_ret (v := .tuple #[.slice none 0 0, .int .i64 1]) (by simp [results, Try.results24, go_sem, ↓IntWalk.iteOmega, *]) rfl ⟨rfl, HB1.out⟩
set_option maxHeartbeats 8000000 in
set_option maxRecDepth 10000 in
theorem rdEncChange1 (c : Ch) (w : World) (h : OkCh c) : Calls Try.prog 24 #[.agg #[.int .i64 c.kd, .int .i64 c.zo, .int .i64 c.ep, .int .i64 c.mv, .string c.ky]] w fun e w' => ∃ v', e = .returned (.tuple #[v', .int .i64 0]) ∧ w'.ownsRow w.heap.size 5 1 v' (chBs c).length (flatU (chBs c)) ∧ Below w.heap.size w w' := by
  have cv : ∀ (w : World) (s : ByteArray), (convert 9 50 (.string s)).run Try.prog w = .ok (.slice (some ⟨w.heap.size, 0, none⟩) s.size (grownCap w s.size 0 5)) (Lib.bytesWorld w 5 s) := fun w s => Lib.run_convert_string_bytes w _ _ _ s Try.underlying9 Try.underlying50 Try.underlying5
  obtain ⟨i0, hi, hz0, hz1, hz2⟩ := info_parts Try.infoByte
  have HM : Hid (decide (OkCh c) = true) := Lib.hid (decide_eq_true h)
  have hky : c.ky.size ≤ 10000 := by
    have h1 := h.ky
    by_cases hk : c.kd = 1
    · have := (h1.1 hk).2; omega
    · have := h1.2 hk; omega
  have HCM := fun w => rdMayChange c w
  rw [HM.out] at HCM
  obtain ⟨R, hR⟩ : ∃ R, R = chBs c := ⟨_, rfl⟩
  rw [← hR]
  obtain ⟨kd, zo, ep, mv, ky⟩ := c
  simp only at HCM hky ⊢
  obtain ⟨y0, hy0⟩ : ∃ y, y = encs [kd, zo, ep, mv] := ⟨_, rfl⟩
  obtain ⟨y1, hy1⟩ : ∃ y, y = encb [bs ky] := ⟨_, rfl⟩
  have l0 : y0.length ≤ 40 := by rw [hy0]; exact encs_le _ 4 (by simp)
  have l1 : y1.length ≤ 10010 := by rw [hy1]; have := encb_le1 hky; omega
  have HE : Hid (R = y0 ++ y1) := Lib.hid (by rw [hR, hy0, hy1, chBs])
  have HY0 := Lib.hid hy0
  have HY1 := Lib.hid hy1
  clear h hR hy0 hy1
  go_enter Try.func24, Try.ntmps24
  go_wp2_with fail
  have hB0 : Below w.heap.size w (w.alloc (.cells #[.int .i64 kd, .int .i64 zo, .int .i64 ep, .int .i64 mv, .string ky] 47)) := (Below.refl _ _).alloc (Nat.le_refl _) _
  have P0 : Whl (w.alloc (.cells #[.int .i64 kd, .int .i64 zo, .int .i64 ep, .int .i64 mv, .string ky] 47)) w.heap.size 47 #[.int .i64 kd, .int .i64 zo, .int .i64 ep, .int .i64 mv, .string ky] := Whl.new rfl
  have hs0 : w.heap.size + 1 = (w.alloc (.cells #[.int .i64 kd, .int .i64 zo, .int .i64 ep, .int .i64 mv, .string ky] 47)).heap.size := by simp
  generalize w.alloc (.cells #[.int .i64 kd, .int .i64 zo, .int .i64 ep, .int .i64 mv, .string ky] 47) = V at *
  refine (HCM _).mono ?_
  rintro e w1 ⟨rfl, hb1⟩
  have P1 := P0.below hb1 (by omega)
  have hs1 := hb1.size
  have B1 := hB0.trans (hb1.mono (by omega))
  have hlt1 : w.heap.size < w1.heap.size := by omega
  clear P0 hB0 hb1
  have d0 := P1.cell 0
  have d1 := P1.cell 1
  have d2 := P1.cell 2
  have d3 := P1.cell 3
  have d4 := P1.cell 4
  simp only [List.getElem?_toArray, List.getElem?_cons_succ, List.getElem?_cons_zero] at d0 d1 d2 d3 d4
  clear P1
  go_wp2_with fail
  refine wp_region_held_drew (S := (fun W => Below (w.heap.size + 1) w1 W ∧ W.cell? ⟨w.heap.size, 0, none⟩ = some (.int .i64 kd) ∧ W.cell? ⟨w.heap.size, 1, none⟩ = some (.int .i64 zo) ∧ W.cell? ⟨w.heap.size, 2, none⟩ = some (.int .i64 ep) ∧ W.cell? ⟨w.heap.size, 3, none⟩ = some (.int .i64 mv) ∧ W.cell? ⟨w.heap.size, 4, none⟩ = some (.string ky))) (by kernel_rfl) ⟨(Below.refl _ _).drew, d0, d1, d2, d3, d4⟩ (fun hHeld => ?_)
  refine wpAnyH_take (i := 0) (oi := ⟨some 7, _, _, _, _, _⟩) (v := ?v0e_1) rfl (by kernel_rfl) (by kernel_rfl) (by kernel_rfl) (fun _ _ _ h => h) (Or.inl ⟨by rfl, ?y0e_1⟩) (by assumption) ?r0e_1
  case y0e_1 => (intro w hSw; (try dsimp only at hSw); (try go_split_ands); go_simp); (try with_reducible rfl)
  case r0e_1 =>
  (try simp only [Act.put, List.setIfInBounds_toArray, List.set_cons_zero, List.set_cons_succ])
  refine wpAnyH_take (i := 1) (oi := ⟨some 8, _, _, _, _, _⟩) (v := ?v1e_4) rfl (by kernel_rfl) (by kernel_rfl) (by kernel_rfl) (fun _ _ _ h => h) (Or.inl ⟨by rfl, ?y1e_4⟩) (by assumption) ?r1e_4
  case y1e_4 => (intro w hSw; (try dsimp only at hSw); (try go_split_ands); go_simp); (try with_reducible rfl)
  case r1e_4 =>
  (try simp only [Act.put, List.setIfInBounds_toArray, List.set_cons_zero, List.set_cons_succ])
  refine wpAnyH_take (i := 2) (oi := ⟨some 9, _, _, _, _, _⟩) (v := ?v2e_7) rfl (by kernel_rfl) (by kernel_rfl) (by kernel_rfl) (fun _ _ _ h => h) (Or.inl ⟨by rfl, ?y2e_7⟩) (by assumption) ?r2e_7
  case y2e_7 => (intro w hSw; (try dsimp only at hSw); (try go_split_ands); go_simp); (try with_reducible rfl)
  case r2e_7 =>
  (try simp only [Act.put, List.setIfInBounds_toArray, List.set_cons_zero, List.set_cons_succ])
  refine wpAnyH_take (i := 3) (oi := ⟨some 10, _, _, _, _, _⟩) (v := ?v3e_10) rfl (by kernel_rfl) (by kernel_rfl) (by kernel_rfl) (fun _ _ _ h => h) (Or.inl ⟨by rfl, ?y3e_10⟩) (by assumption) ?r3e_10
  case y3e_10 => (intro w hSw; (try dsimp only at hSw); (try go_split_ands); go_simp); (try with_reducible rfl)
  case r3e_10 =>
  (try simp only [Act.put, List.setIfInBounds_toArray, List.set_cons_zero, List.set_cons_succ])
  refine wpAnyH_take (i := 4) (oi := ⟨some 11, _, _, _, _, _⟩) (v := ?v4e_13) rfl (by kernel_rfl) (by kernel_rfl) (by kernel_rfl) (fun _ _ _ h => h) (Or.inl ⟨by rfl, ?y4e_13⟩) (by assumption) ?r4e_13
  case y4e_13 => (intro w hSw; (try dsimp only at hSw); (try go_split_ands); go_simp); (try with_reducible rfl)
  case r4e_13 =>
  (try simp only [Act.put, List.setIfInBounds_toArray, List.set_cons_zero, List.set_cons_succ])
  refine wpAnyH_take (i := 5) (oi := ⟨some 12, _, _, _, _, _⟩) (v := ?v5e_16) rfl (by kernel_rfl) (by kernel_rfl) (by kernel_rfl) (fun _ _ _ h => h) (Or.inl ⟨by rfl, ?y5e_16⟩) (by assumption) ?r5e_16
  case y5e_16 => (intro w hSw; (try dsimp only at hSw); (try go_split_ands); go_simp); (try with_reducible rfl)
  case r5e_16 =>
  (try simp only [Act.put, List.setIfInBounds_toArray, List.set_cons_zero, List.set_cons_succ])
  refine wpAnyH_take (i := 6) (oi := ⟨some 13, _, _, _, _, _⟩) (v := ?v6e_19) rfl (by kernel_rfl) (by kernel_rfl) (by kernel_rfl) (fun _ _ _ h => h) (Or.inl ⟨by rfl, ?y6e_19⟩) (by assumption) ?r6e_19
  case y6e_19 => (intro w hSw; (try dsimp only at hSw); (try go_split_ands); go_simp); (try with_reducible rfl)
  case r6e_19 =>
  (try simp only [Act.put, List.setIfInBounds_toArray, List.set_cons_zero, List.set_cons_succ])
  refine wpAnyH_take (i := 7) (oi := ⟨some 14, _, _, _, _, _⟩) (v := ?v7e_22) rfl (by kernel_rfl) (by kernel_rfl) (by kernel_rfl) (fun _ _ _ h => h) (Or.inl ⟨by rfl, ?y7e_22⟩) (by assumption) ?r7e_22
  case y7e_22 => (intro w hSw; (try dsimp only at hSw); (try go_split_ands); go_simp); (try with_reducible rfl)
  case r7e_22 =>
  (try simp only [Act.put, List.setIfInBounds_toArray, List.set_cons_zero, List.set_cons_succ])
  refine wpAnyH_take (i := 10) (oi := ⟨some 17, _, _, _, _, _⟩) (v := ?v10e_25) rfl (by kernel_rfl) (by kernel_rfl) (by kernel_rfl) (fun _ _ _ h => h) (Or.inl ⟨by rfl, ?y10e_25⟩) (by assumption) ?r10e_25
  case y10e_25 => (intro w hSw; (try dsimp only at hSw); (try go_split_ands); go_simp); (try with_reducible rfl)
  case r10e_25 =>
  (try simp only [Act.put, List.setIfInBounds_toArray, List.set_cons_zero, List.set_cons_succ])
  refine wpAnyH_take (i := 11) (oi := ⟨some 18, _, _, _, _, _⟩) (v := ?v11e_28) rfl (by kernel_rfl) (by kernel_rfl) (by kernel_rfl) (fun _ _ _ h => h) (Or.inl ⟨by rfl, ?y11e_28⟩) (by assumption) ?r11e_28
  case y11e_28 => (intro w hSw; (try dsimp only at hSw); (try go_split_ands); go_simp); (try with_reducible rfl)
  case r11e_28 =>
  (try simp only [Act.put, List.setIfInBounds_toArray, List.set_cons_zero, List.set_cons_succ])
  refine wpAnyH_ready (rs := [8, 12]) (by kernel_rfl) (by simp) ?_
  refine AllReadyH.cons (o := ⟨some 15, _, _, _, _, _⟩) rfl (fun K hK => ?_) (AllReadyH.cons (o := ⟨some 19, _, _, _, _, _⟩) rfl (fun K hK => ?_) AllReadyH.nil)
  · go_simp
    have hq := hHeld.1.size
    have hb3 := hHeld.1.alloc (by omega) (.cells #[.int .i64 kd, .int .i64 zo, .int .i64 ep, .int .i64 mv] 3)
    have HI := whl_of_alloc' hb3
    refine hK.out _ _ ⟨hb3, bkeep hb3 d0 (by omega), bkeep hb3 d1 (by omega), bkeep hb3 d2 (by omega), bkeep hb3 d3 (by omega), bkeep hb3 d4 (by omega)⟩ (fun hHeld => ?_)
    clear hK K
    (try simp only [Act.put, List.setIfInBounds_toArray, List.set_cons_zero, List.set_cons_succ])
    refine wpAnyH_ready (rs := [9, 12]) (by kernel_rfl) (by simp) ?_
    refine AllReadyH.cons (o := ⟨some 16, _, _, _, _, _⟩) rfl (fun K hK => ?_) (AllReadyH.cons (o := ⟨some 19, _, _, _, _, _⟩) rfl (fun K hK => ?_) AllReadyH.nil)
    · go_simp
      refine (refNums (some ⟨_, 0, none⟩) 4 [kd, zo, ep, mv] _ (by simp) (ints4_of HI HI.low)).mono ?_
      rintro z w9 ⟨v9, rfl, hown9, hb9⟩
      rw [← HY0.out] at hown9
      have hq := hHeld.1.size
      have hq9 := hb9.size
      have hb3 := hHeld.1.trans (hb9.mono (Nat.le_trans (show w.heap.size + 1 ≤ w1.heap.size by omega) hHeld.1.size))
      have HO := Lib.hid (hown9.mono (Nat.le_trans (show w.heap.size + 1 ≤ w1.heap.size by omega) hHeld.1.size))
      clear hown9
      go_wp2_with fail
      refine hK.out _ _ ⟨hb3, bkeep hb3 d0 (by omega), bkeep hb3 d1 (by omega), bkeep hb3 d2 (by omega), bkeep hb3 d3 (by omega), bkeep hb3 d4 (by omega)⟩ (fun hHeld => ?_)
      clear hK K
      (try simp only [Act.put, List.setIfInBounds_toArray, List.set_cons_zero, List.set_cons_succ])
      refine wpAnyH_ready (rs := [12]) (by kernel_rfl) (by simp) ?_
      refine AllReadyH.cons (o := ⟨some 19, _, _, _, _, _⟩) rfl (fun K hK => ?_) AllReadyH.nil
      go_simp
      have hq := hHeld.1.size
      have hb3 := hHeld.1.trans ((bel_bw (s := ky) hHeld.1).mono (show w.heap.size + 1 ≤ _ by omega))
      have hsz := siz_of hb3
      have HC := bwc hb3
      have HO := Lib.hid (row_below HO.out (bel_bw (s := ky) hHeld.1))
      refine hK.out _ _ ⟨hb3, bkeep hb3 d0 (by omega), bkeep hb3 d1 (by omega), bkeep hb3 d2 (by omega), bkeep hb3 d3 (by omega), bkeep hb3 d4 (by omega)⟩ (fun hHeld => ?_)
      clear hK K
      (try simp only [Act.put, List.setIfInBounds_toArray, List.set_cons_zero, List.set_cons_succ])
      refine wpAnyH_ready (rs := [13]) (by kernel_rfl) (by simp) ?_
      refine AllReadyH.cons (o := ⟨some 20, _, _, _, _, _⟩) rfl (fun K hK => ?_) AllReadyH.nil
      go_simp
      refine (refBytes (some ⟨_, 0, none⟩) _ ky.size (bs ky) _ (bs_length _) (by omega) (fun c => HC.out _ c (by simp))).mono ?_
      rintro z w13 ⟨v13, rfl, hown13, hb13⟩
      rw [encb_one, ← HY1.out] at hown13
      have hq := hHeld.1.size
      have hb3 := hHeld.1.trans (hb13.mono (Nat.le_trans (show w.heap.size + 1 ≤ w1.heap.size by omega) hHeld.1.size))
      obtain ⟨A13, c13, rfl, hc13, hm13, hx13⟩ := row_cells hown13
      have HX13 := Lib.hid hx13
      have HO := Lib.hid (row_below HO.out hb13)
      clear hown13 hx13
      go_wp2_with fail
      refine hK.out _ _ ⟨hb3, bkeep hb3 d0 (by omega), bkeep hb3 d1 (by omega), bkeep hb3 d2 (by omega), bkeep hb3 d3 (by omega), bkeep hb3 d4 (by omega)⟩ (fun hHeld => ?_)
      clear hK K
      (try simp only [Act.put, List.setIfInBounds_toArray, List.set_cons_zero, List.set_cons_succ])
      refine wpAnyH_ready (rs := [14]) (by kernel_rfl) (by simp) ?_
      refine AllReadyH.cons (o := ⟨some 21, _, _, _, _, _⟩) rfl (fun K hK => ?_) AllReadyH.nil
      have hq := hHeld.1.size
      refine step_append_cells rfl (.tmp 16) (.tmp 20) 50 rfl (w.heap.size + 1) 5 i0 (.int .u8 0) 1 1 Try.underlying50 hi hz0 hz1 hz2 rfl (by decide) v9 y0.length (flatU y0) rfl HO.out _ A13 y1.length c13 (flatU y1) rfl HX13.out (flatU_one _) (by unfold maxLen; omega) (by omega) (by omega) ?_
      intro v10 w10 hown10 ht10 hb10
      have hb3 := hHeld.1.trans (ht10.below (B := (w.heap.size + 1)) (by omega) (fun k hk => (HO.out.lt k hk).1))
      have HO10 := Lib.hid hown10
      clear hown10
      refine hK.out _ _ ⟨hb3, bkeep hb3 d0 (by omega), bkeep hb3 d1 (by omega), bkeep hb3 d2 (by omega), bkeep hb3 d3 (by omega), bkeep hb3 d4 (by omega)⟩ (fun hHeld => ?_)
      clear hK K
      (try simp only [Act.put, List.setIfInBounds_toArray, List.set_cons_zero, List.set_cons_succ])
      refine wpAnyH_take (i := 15) (oi := ⟨some 2, _, _, _, _, _⟩) (v := ?v15e_93) rfl (by kernel_rfl) (by kernel_rfl) (by kernel_rfl) (fun _ _ _ h => h) (Or.inl ⟨by rfl, ?y15e_93⟩) (by assumption) ?r15e_93
      case y15e_93 => (intro w hSw; (try dsimp only at hSw); (try go_split_ands); go_simp); (try with_reducible rfl)
      case r15e_93 =>
      (try simp only [Act.put, List.setIfInBounds_toArray, List.set_cons_zero, List.set_cons_succ])
      refine wpAnyH_take (i := 16) (oi := ⟨some 3, _, _, _, _, _⟩) (v := ?v16e_96) rfl (by kernel_rfl) (by kernel_rfl) (by kernel_rfl) (fun _ _ _ h => h) (Or.inl ⟨by rfl, ?y16e_96⟩) (by assumption) ?r16e_96
      case y16e_96 => (intro w hSw; (try dsimp only at hSw); (try go_split_ands); go_simp); (try with_reducible rfl)
      case r16e_96 =>
      (try simp only [Act.put, List.setIfInBounds_toArray, List.set_cons_zero, List.set_cons_succ])
      refine wpAnyH_done (by kernel_rfl) ?_ _
      go_wp2_with fail
      refine bodyPost_ret (v := .tuple #[v10, .int .i64 0]) (by simp [results, Try.results24, go_sem, ↓IntWalk.iteOmega, *]) rfl ⟨_, rfl, ?_, B1.trans (hHeld.1.mono (by omega))⟩
      have h5 := HO10.out.mono (show w.heap.size ≤ w.heap.size + 1 by omega)
      rw [← flatU_app, ← List.length_append] at h5
      rw [HE.out]
      exact h5
    · go_simp
      have hq := hHeld.1.size
      have hb3 := hHeld.1.trans ((bel_bw (s := ky) hHeld.1).mono (show w.heap.size + 1 ≤ _ by omega))
      have hsz := siz_of hb3
      have HC := bwc hb3
      have HI := HI.below (bel_bw (s := ky) hHeld.1) HI.low
      refine hK.out _ _ ⟨hb3, bkeep hb3 d0 (by omega), bkeep hb3 d1 (by omega), bkeep hb3 d2 (by omega), bkeep hb3 d3 (by omega), bkeep hb3 d4 (by omega)⟩ (fun hHeld => ?_)
      clear hK K
      (try simp only [Act.put, List.setIfInBounds_toArray, List.set_cons_zero, List.set_cons_succ])
      refine wpAnyH_ready (rs := [9]) (by kernel_rfl) (by simp) ?_
      refine AllReadyH.cons (o := ⟨some 16, _, _, _, _, _⟩) rfl (fun K hK => ?_) AllReadyH.nil
      go_simp
      refine (refNums (some ⟨_, 0, none⟩) 4 [kd, zo, ep, mv] _ (by simp) (ints4_of HI HI.low)).mono ?_
      rintro z w9 ⟨v9, rfl, hown9, hb9⟩
      rw [← HY0.out] at hown9
      have hq := hHeld.1.size
      have hq9 := hb9.size
      have hb3 := hHeld.1.trans (hb9.mono (Nat.le_trans (show w.heap.size + 1 ≤ w1.heap.size by omega) hHeld.1.size))
      have HO := Lib.hid (hown9.mono (Nat.le_trans (show w.heap.size + 1 ≤ w1.heap.size by omega) hHeld.1.size))
      have HC := Lib.hid (fun g c hg => cells_keep (HC.out g c hg) hb9 hb9.size)
      clear hown9
      go_wp2_with fail
      refine hK.out _ _ ⟨hb3, bkeep hb3 d0 (by omega), bkeep hb3 d1 (by omega), bkeep hb3 d2 (by omega), bkeep hb3 d3 (by omega), bkeep hb3 d4 (by omega)⟩ (fun hHeld => ?_)
      clear hK K
      (try simp only [Act.put, List.setIfInBounds_toArray, List.set_cons_zero, List.set_cons_succ])
      refine wpAnyH_ready (rs := [13]) (by kernel_rfl) (by simp) ?_
      refine AllReadyH.cons (o := ⟨some 20, _, _, _, _, _⟩) rfl (fun K hK => ?_) AllReadyH.nil
      go_simp
      refine (refBytes (some ⟨(w1.heap.size + 1), 0, none⟩) _ ky.size (bs ky) _ (bs_length _) (by omega) (fun c => HC.out _ c (by simp))).mono ?_
      rintro z w13 ⟨v13, rfl, hown13, hb13⟩
      rw [encb_one, ← HY1.out] at hown13
      have hq := hHeld.1.size
      have hb3 := hHeld.1.trans (hb13.mono (Nat.le_trans (show w.heap.size + 1 ≤ w1.heap.size by omega) hHeld.1.size))
      obtain ⟨A13, c13, rfl, hc13, hm13, hx13⟩ := row_cells hown13
      have HX13 := Lib.hid hx13
      have HO := Lib.hid (row_below HO.out hb13)
      clear hown13 hx13
      go_wp2_with fail
      refine hK.out _ _ ⟨hb3, bkeep hb3 d0 (by omega), bkeep hb3 d1 (by omega), bkeep hb3 d2 (by omega), bkeep hb3 d3 (by omega), bkeep hb3 d4 (by omega)⟩ (fun hHeld => ?_)
      clear hK K
      (try simp only [Act.put, List.setIfInBounds_toArray, List.set_cons_zero, List.set_cons_succ])
      refine wpAnyH_ready (rs := [14]) (by kernel_rfl) (by simp) ?_
      refine AllReadyH.cons (o := ⟨some 21, _, _, _, _, _⟩) rfl (fun K hK => ?_) AllReadyH.nil
      have hq := hHeld.1.size
      refine step_append_cells rfl (.tmp 16) (.tmp 20) 50 rfl (w.heap.size + 1) 5 i0 (.int .u8 0) 1 1 Try.underlying50 hi hz0 hz1 hz2 rfl (by decide) v9 y0.length (flatU y0) rfl HO.out _ A13 y1.length c13 (flatU y1) rfl HX13.out (flatU_one _) (by unfold maxLen; omega) (by omega) (by omega) ?_
      intro v10 w10 hown10 ht10 hb10
      have hb3 := hHeld.1.trans (ht10.below (B := (w.heap.size + 1)) (by omega) (fun k hk => (HO.out.lt k hk).1))
      have HO10 := Lib.hid hown10
      clear hown10
      refine hK.out _ _ ⟨hb3, bkeep hb3 d0 (by omega), bkeep hb3 d1 (by omega), bkeep hb3 d2 (by omega), bkeep hb3 d3 (by omega), bkeep hb3 d4 (by omega)⟩ (fun hHeld => ?_)
      clear hK K
      (try simp only [Act.put, List.setIfInBounds_toArray, List.set_cons_zero, List.set_cons_succ])
      refine wpAnyH_take (i := 15) (oi := ⟨some 2, _, _, _, _, _⟩) (v := ?v15e_158) rfl (by kernel_rfl) (by kernel_rfl) (by kernel_rfl) (fun _ _ _ h => h) (Or.inl ⟨by rfl, ?y15e_158⟩) (by assumption) ?r15e_158
      case y15e_158 => (intro w hSw; (try dsimp only at hSw); (try go_split_ands); go_simp); (try with_reducible rfl)
      case r15e_158 =>
      (try simp only [Act.put, List.setIfInBounds_toArray, List.set_cons_zero, List.set_cons_succ])
      refine wpAnyH_take (i := 16) (oi := ⟨some 3, _, _, _, _, _⟩) (v := ?v16e_161) rfl (by kernel_rfl) (by kernel_rfl) (by kernel_rfl) (fun _ _ _ h => h) (Or.inl ⟨by rfl, ?y16e_161⟩) (by assumption) ?r16e_161
      case y16e_161 => (intro w hSw; (try dsimp only at hSw); (try go_split_ands); go_simp); (try with_reducible rfl)
      case r16e_161 =>
      (try simp only [Act.put, List.setIfInBounds_toArray, List.set_cons_zero, List.set_cons_succ])
      refine wpAnyH_done (by kernel_rfl) ?_ _
      go_wp2_with fail
      refine bodyPost_ret (v := .tuple #[v10, .int .i64 0]) (by simp [results, Try.results24, go_sem, ↓IntWalk.iteOmega, *]) rfl ⟨_, rfl, ?_, B1.trans (hHeld.1.mono (by omega))⟩
      have h5 := HO10.out.mono (show w.heap.size ≤ w.heap.size + 1 by omega)
      rw [← flatU_app, ← List.length_append] at h5
      rw [HE.out]
      exact h5
  · go_simp
    have hq := hHeld.1.size
    have hb3 := hHeld.1.trans ((bel_bw (s := ky) hHeld.1).mono (show w.heap.size + 1 ≤ _ by omega))
    have hsz := siz_of hb3
    have HC := bwc hb3
    generalize hX : Lib.bytesWorld w1.drew 5 ky = X at *
    refine hK.out _ _ ⟨hb3, bkeep hb3 d0 (by omega), bkeep hb3 d1 (by omega), bkeep hb3 d2 (by omega), bkeep hb3 d3 (by omega), bkeep hb3 d4 (by omega)⟩ (fun hHeld => ?_)
    clear hK K
    (try simp only [Act.put, List.setIfInBounds_toArray, List.set_cons_zero, List.set_cons_succ])
    refine wpAnyH_ready (rs := [8]) (by kernel_rfl) (by simp) ?_
    refine AllReadyH.cons (o := ⟨some 15, _, _, _, _, _⟩) rfl (fun K hK => ?_) AllReadyH.nil
    go_simp
    have hq := hHeld.1.size
    have hb3 := hHeld.1.alloc (by omega) (.cells #[.int .i64 kd, .int .i64 zo, .int .i64 ep, .int .i64 mv] 3)
    have HI := whl_of_alloc' hb3
    have hI2 : X.heap.size = w1.heap.size + 1 := hsz
    rw [hI2] at HI
    have HC := Lib.hid (fun g c hg => cells_keep (HC.out g c hg) (bel_alloc hb3) (bel_alloc hb3).size)
    refine hK.out _ _ ⟨hb3, bkeep hb3 d0 (by omega), bkeep hb3 d1 (by omega), bkeep hb3 d2 (by omega), bkeep hb3 d3 (by omega), bkeep hb3 d4 (by omega)⟩ (fun hHeld => ?_)
    clear hK K
    (try simp only [Act.put, List.setIfInBounds_toArray, List.set_cons_zero, List.set_cons_succ])
    refine wpAnyH_ready (rs := [9]) (by kernel_rfl) (by simp) ?_
    refine AllReadyH.cons (o := ⟨some 16, _, _, _, _, _⟩) rfl (fun K hK => ?_) AllReadyH.nil
    go_simp
    refine (refNums (some ⟨_, 0, none⟩) 4 [kd, zo, ep, mv] _ (by simp) (ints4_of HI HI.low)).mono ?_
    rintro z w9 ⟨v9, rfl, hown9, hb9⟩
    rw [← HY0.out] at hown9
    have hq := hHeld.1.size
    have hq9 := hb9.size
    have hb3 := hHeld.1.trans (hb9.mono (Nat.le_trans (show w.heap.size + 1 ≤ w1.heap.size by omega) hHeld.1.size))
    have HO := Lib.hid (hown9.mono (Nat.le_trans (show w.heap.size + 1 ≤ w1.heap.size by omega) hHeld.1.size))
    have HC := Lib.hid (fun g c hg => cells_keep (HC.out g c hg) hb9 hb9.size)
    clear hown9
    go_wp2_with fail
    refine hK.out _ _ ⟨hb3, bkeep hb3 d0 (by omega), bkeep hb3 d1 (by omega), bkeep hb3 d2 (by omega), bkeep hb3 d3 (by omega), bkeep hb3 d4 (by omega)⟩ (fun hHeld => ?_)
    clear hK K
    (try simp only [Act.put, List.setIfInBounds_toArray, List.set_cons_zero, List.set_cons_succ])
    refine wpAnyH_ready (rs := [13]) (by kernel_rfl) (by simp) ?_
    refine AllReadyH.cons (o := ⟨some 20, _, _, _, _, _⟩) rfl (fun K hK => ?_) AllReadyH.nil
    go_simp
    refine (refBytes (some ⟨w1.heap.size, 0, none⟩) _ ky.size (bs ky) _ (bs_length _) (by omega) (fun c => HC.out _ c (by simp))).mono ?_
    rintro z w13 ⟨v13, rfl, hown13, hb13⟩
    rw [encb_one, ← HY1.out] at hown13
    have hq := hHeld.1.size
    have hb3 := hHeld.1.trans (hb13.mono (Nat.le_trans (show w.heap.size + 1 ≤ w1.heap.size by omega) hHeld.1.size))
    obtain ⟨A13, c13, rfl, hc13, hm13, hx13⟩ := row_cells hown13
    have HX13 := Lib.hid hx13
    have HO := Lib.hid (row_below HO.out hb13)
    clear hown13 hx13
    go_wp2_with fail
    refine hK.out _ _ ⟨hb3, bkeep hb3 d0 (by omega), bkeep hb3 d1 (by omega), bkeep hb3 d2 (by omega), bkeep hb3 d3 (by omega), bkeep hb3 d4 (by omega)⟩ (fun hHeld => ?_)
    clear hK K
    (try simp only [Act.put, List.setIfInBounds_toArray, List.set_cons_zero, List.set_cons_succ])
    refine wpAnyH_ready (rs := [14]) (by kernel_rfl) (by simp) ?_
    refine AllReadyH.cons (o := ⟨some 21, _, _, _, _, _⟩) rfl (fun K hK => ?_) AllReadyH.nil
    have hq := hHeld.1.size
    refine step_append_cells rfl (.tmp 16) (.tmp 20) 50 rfl (w.heap.size + 1) 5 i0 (.int .u8 0) 1 1 Try.underlying50 hi hz0 hz1 hz2 rfl (by decide) v9 y0.length (flatU y0) rfl HO.out _ A13 y1.length c13 (flatU y1) rfl HX13.out (flatU_one _) (by unfold maxLen; omega) (by omega) (by omega) ?_
    intro v10 w10 hown10 ht10 hb10
    have hb3 := hHeld.1.trans (ht10.below (B := (w.heap.size + 1)) (by omega) (fun k hk => (HO.out.lt k hk).1))
    have HO10 := Lib.hid hown10
    clear hown10
    refine hK.out _ _ ⟨hb3, bkeep hb3 d0 (by omega), bkeep hb3 d1 (by omega), bkeep hb3 d2 (by omega), bkeep hb3 d3 (by omega), bkeep hb3 d4 (by omega)⟩ (fun hHeld => ?_)
    clear hK K
    (try simp only [Act.put, List.setIfInBounds_toArray, List.set_cons_zero, List.set_cons_succ])
    refine wpAnyH_take (i := 15) (oi := ⟨some 2, _, _, _, _, _⟩) (v := ?v15e_235) rfl (by kernel_rfl) (by kernel_rfl) (by kernel_rfl) (fun _ _ _ h => h) (Or.inl ⟨by rfl, ?y15e_235⟩) (by assumption) ?r15e_235
    case y15e_235 => (intro w hSw; (try dsimp only at hSw); (try go_split_ands); go_simp); (try with_reducible rfl)
    case r15e_235 =>
    (try simp only [Act.put, List.setIfInBounds_toArray, List.set_cons_zero, List.set_cons_succ])
    refine wpAnyH_take (i := 16) (oi := ⟨some 3, _, _, _, _, _⟩) (v := ?v16e_238) rfl (by kernel_rfl) (by kernel_rfl) (by kernel_rfl) (fun _ _ _ h => h) (Or.inl ⟨by rfl, ?y16e_238⟩) (by assumption) ?r16e_238
    case y16e_238 => (intro w hSw; (try dsimp only at hSw); (try go_split_ands); go_simp); (try with_reducible rfl)
    case r16e_238 =>
    (try simp only [Act.put, List.setIfInBounds_toArray, List.set_cons_zero, List.set_cons_succ])
    refine wpAnyH_done (by kernel_rfl) ?_ _
    go_wp2_with fail
    refine bodyPost_ret (v := .tuple #[v10, .int .i64 0]) (by simp [results, Try.results24, go_sem, ↓IntWalk.iteOmega, *]) rfl ⟨_, rfl, ?_, B1.trans (hHeld.1.mono (by omega))⟩
    have h5 := HO10.out.mono (show w.heap.size ≤ w.heap.size + 1 by omega)
    rw [← flatU_app, ← List.length_append] at h5
    rw [HE.out]
    exact h5
end Go.Proofs.Ytbohpjinkdffhaa
