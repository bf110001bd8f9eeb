/- The document's own Bytes, put, one; op.Key. -/
import Derived.Test.YtblknjclkecglaaDcG
import Derived.Test.YtblknjclkecglaaStepAppend
namespace Go.Proofs.Ytblknjclkecglaa
open Go.RowKit
set_option linter.unusedVariables false
set_option linter.unusedSimpArgs false

theorem bwc {B : Nat} {a W : World} {s : ByteArray} (h : Below B a (Lib.bytesWorld W 5 s)) : Hid (∀ g c, g = W.heap.size → Cells (Lib.bytesWorld W 5 s) (Lib.bytesWorld W 5 s).heap.size (some ⟨g, 0, none⟩) (bs s).length c 1 (flatU (bs s))) := Lib.hid (fun g c hg => by subst hg; exact bw_cells' W _ s c)
set_option maxHeartbeats 1000000 in
set_option maxRecDepth 10000 in
theorem refBytes (A : Option Addr) (c n : Nat) (xs : List Nat) (w : World) (hn : xs.length = n) (hl : n ≤ 100000) (hx : ∀ c, Cells w w.heap.size A xs.length c 1 (flatU xs)) :
    Calls Try.prog 45 #[.slice A n c] w fun e w' => ∃ v', e = .returned v' ∧ w'.ownsRow w.heap.size 5 1 v' (enc n ++ xs).length (flatU (enc n ++ xs)) ∧ Below w.heap.size w w' := by
  subst hn
  obtain ⟨i0, hi, hz0, hz1, hz2⟩ := info_parts Try.infoByte
  have HX := Lib.hid (hx c)
  have hel : (enc xs.length).length ≤ 10 := enc_len (by omega)
  clear hx
  go_enter Try.func45, Try.ntmps45
  go_wp2_with fail
  refine (refNum (xs.length : Int) _).mono ?_
  rintro e w1 ⟨v1, rfl, hown1, hb1⟩
  rw [clamp_nat (by omega)] at hown1
  have HO1 := Lib.hid hown1
  have HX1 := Lib.hid (cells_keep HX.out hb1 hb1.size)
  have hs1 := hb1.size
  clear hown1
  go_wp2_with (at_builtin; go_must (refine wpList_append_row rfl (.tmp 5) (.tmp 6) 27 rfl w.heap.size 5 i0 (.int .u8 0) 1 1 Try.underlying27 hi hz0 hz1 hz2 rfl (by decide) v1 (enc xs.length).length (flatU (enc xs.length)) rfl HO1.out w1.heap.size A xs.length c (flatU xs) rfl HX1.out (flatU_one _) (by unfold maxLen; omega) (by omega) (by (first | omega | (simp; done) | (simp; omega))) ?_); intro v5 w5 hown5 hb5)
  rw [← flatU_app, ← List.length_append] at hown5
  have HO5 := Lib.hid hown5
  clear hown5
  go_ret
  exact ⟨_, rfl, HO5.out, hb1.trans hb5⟩
theorem refOne (b : Bool) (w : World) : Calls Try.prog 25 #[.bool b] w fun e w' => e = .returned (.int .i64 (one01 b)) ∧ w' = w := by
  cases b
  · go_enter Try.func25, Try.ntmps25
    go_wp2_with fail
    go_ret
    exact ⟨rfl, rfl⟩
  · go_enter Try.func25, Try.ntmps25
    go_wp2_with fail
    go_ret
    exact ⟨rfl, rfl⟩
theorem opKey (k cl sq : Int) (ak aw tk tw : ByteArray) (it ct pr : Int) (bu : Bool) (id : Int) (w : World) : Calls Try.prog 11 #[.agg #[.int .i64 k, .int .i64 cl, .int .i64 sq, .string ak, .string aw, .string tk, .string tw, .int .i64 it, .int .i64 ct, .int .i64 pr, .bool bu, .int .i64 id]] w fun e w' => e = .returned (.string ak) ∧ Below w.heap.size w w' := by
  go_enter Try.func11, Try.ntmps11
  go_wp2_with fail
  go_ret
  exact ⟨rfl, by ((repeat (first | (with_reducible exact Below.refl _ _) | (with_reducible assumption) | ((with_reducible refine b_set ?_ ?_); · (first | omega | (simp; done) | (simp; omega))) | ((with_reducible refine b_alloc ?_ ?_); · (first | omega | (simp; done) | (simp; omega))) | (with_reducible refine Below.drew ?_) | (with_reducible refine b_drewN ?_) | ((with_reducible refine b_call (by assumption) ?_ ?_); · (first | omega | (simp; done) | (simp; omega))))); done)⟩
theorem nb_enc {xs : List Nat} (h : xs.length ≤ 4611686018427387904) (r : List Nat) : nb (some (enc xs.length ++ (xs ++ r))) = (xs, some r) := by
  unfold nb
  rw [nx_enc h]
  simp
theorem strU_bs (s : ByteArray) : strU (bs s) = s := by
  have h : (strU (bs s)).data.toList = s.data.toList := by
    unfold strU bs
    rw [strOfNums_data, List.map_map, List.map_map]
    refine (List.map_congr_left (g := fun b => b) (fun b _ => ?_)).trans (List.map_id' _)
    simp [Function.comp]
  have h2 : (strU (bs s)).data = s.data := Array.ext' h
  cases s with
  | mk d => cases hh : strU (bs ⟨d⟩) with | mk d2 => rw [hh] at h2; simp only at h2; rw [h2]
theorem op_back {k : Int} {cl : Int} {sq : Int} {ak : ByteArray} {aw : ByteArray} {tk : ByteArray} {tw : ByteArray} {it : Int} {ct : Int} {pr : Int} {bu : Bool} {id : Int} (hm : mB k cl sq ak aw tk tw it ct pr bu id = true) : dV (opBs k cl sq ak aw tk tw it ct pr bu id) = .tuple #[.agg #[.int .i64 k, .int .i64 cl, .int .i64 sq, .string ak, .string aw, .string tk, .string tw, .int .i64 it, .int .i64 ct, .int .i64 pr, .bool bu, .int .i64 id], .int .i64 0] := by
  obtain ⟨⟨k0, k1⟩, ⟨cl0, cl1⟩, ⟨sq0, sq1⟩, ⟨it0, it1⟩, ⟨ct0, ct1⟩, ⟨pr0, pr1⟩, ⟨id0, id1⟩, gak, gaw, gtk, gtw⟩ := mB_bounds hm
  have e := opBs_flat k cl sq ak aw tk tw it ct pr bu id
  generalize opBs k cl sq ak aw tk tw it ct pr bu id = X at e ⊢
  have d0 : dS X 0 = some (enc (clamp k) ++ (enc (clamp cl) ++ (enc (clamp sq) ++ (enc (bs ak).length ++ (bs ak ++ (enc (bs aw).length ++ (bs aw ++ (enc (bs tk).length ++ (bs tk ++ (enc (bs tw).length ++ (bs tw ++ (enc (clamp it) ++ (enc (clamp ct) ++ (enc (clamp pr) ++ (enc (clamp (one01 bu)) ++ (enc (clamp id) ++ [])))))))))))))))) := by rw [← e]; rfl
  have h0 : nx (dS X 0) = (clamp k, some (enc (clamp cl) ++ (enc (clamp sq) ++ (enc (bs ak).length ++ (bs ak ++ (enc (bs aw).length ++ (bs aw ++ (enc (bs tk).length ++ (bs tk ++ (enc (bs tw).length ++ (bs tw ++ (enc (clamp it) ++ (enc (clamp ct) ++ (enc (clamp pr) ++ (enc (clamp (one01 bu)) ++ (enc (clamp id) ++ [])))))))))))))))) := by rw [d0]; exact nx_enc (clamp_le _) _
  have d1 : dS X 1 = some (enc (clamp cl) ++ (enc (clamp sq) ++ (enc (bs ak).length ++ (bs ak ++ (enc (bs aw).length ++ (bs aw ++ (enc (bs tk).length ++ (bs tk ++ (enc (bs tw).length ++ (bs tw ++ (enc (clamp it) ++ (enc (clamp ct) ++ (enc (clamp pr) ++ (enc (clamp (one01 bu)) ++ (enc (clamp id) ++ []))))))))))))))) := by show (nx (dS X 0)).2 = _; rw [h0]
  have v0 : dN X 0 = k := by unfold dN; rw [h0]; exact clamp_in k0 (by omega)
  have h1 : nx (dS X 1) = (clamp cl, some (enc (clamp sq) ++ (enc (bs ak).length ++ (bs ak ++ (enc (bs aw).length ++ (bs aw ++ (enc (bs tk).length ++ (bs tk ++ (enc (bs tw).length ++ (bs tw ++ (enc (clamp it) ++ (enc (clamp ct) ++ (enc (clamp pr) ++ (enc (clamp (one01 bu)) ++ (enc (clamp id) ++ []))))))))))))))) := by rw [d1]; exact nx_enc (clamp_le _) _
  have d2 : dS X 2 = some (enc (clamp sq) ++ (enc (bs ak).length ++ (bs ak ++ (enc (bs aw).length ++ (bs aw ++ (enc (bs tk).length ++ (bs tk ++ (enc (bs tw).length ++ (bs tw ++ (enc (clamp it) ++ (enc (clamp ct) ++ (enc (clamp pr) ++ (enc (clamp (one01 bu)) ++ (enc (clamp id) ++ [])))))))))))))) := by show (nx (dS X 1)).2 = _; rw [h1]
  have v1 : dN X 1 = cl := by unfold dN; rw [h1]; exact clamp_in cl0 (by omega)
  have h2 : nx (dS X 2) = (clamp sq, some (enc (bs ak).length ++ (bs ak ++ (enc (bs aw).length ++ (bs aw ++ (enc (bs tk).length ++ (bs tk ++ (enc (bs tw).length ++ (bs tw ++ (enc (clamp it) ++ (enc (clamp ct) ++ (enc (clamp pr) ++ (enc (clamp (one01 bu)) ++ (enc (clamp id) ++ [])))))))))))))) := by rw [d2]; exact nx_enc (clamp_le _) _
  have d3 : dS X 3 = some (enc (bs ak).length ++ (bs ak ++ (enc (bs aw).length ++ (bs aw ++ (enc (bs tk).length ++ (bs tk ++ (enc (bs tw).length ++ (bs tw ++ (enc (clamp it) ++ (enc (clamp ct) ++ (enc (clamp pr) ++ (enc (clamp (one01 bu)) ++ (enc (clamp id) ++ []))))))))))))) := by show (nx (dS X 2)).2 = _; rw [h2]
  have v2 : dN X 2 = sq := by unfold dN; rw [h2]; exact clamp_in sq0 (by omega)
  have h3 : nb (dS X 3) = (bs ak, some (enc (bs aw).length ++ (bs aw ++ (enc (bs tk).length ++ (bs tk ++ (enc (bs tw).length ++ (bs tw ++ (enc (clamp it) ++ (enc (clamp ct) ++ (enc (clamp pr) ++ (enc (clamp (one01 bu)) ++ (enc (clamp id) ++ [])))))))))))) := by rw [d3]; exact nb_enc (by rw [bs_length]; omega) _
  have d4 : dS X 4 = some (enc (bs aw).length ++ (bs aw ++ (enc (bs tk).length ++ (bs tk ++ (enc (bs tw).length ++ (bs tw ++ (enc (clamp it) ++ (enc (clamp ct) ++ (enc (clamp pr) ++ (enc (clamp (one01 bu)) ++ (enc (clamp id) ++ []))))))))))) := by show (nb (dS X 3)).2 = _; rw [h3]
  have v3 : dT X 3 = ak := by unfold dT; rw [h3]; exact strU_bs ak
  have h4 : nb (dS X 4) = (bs aw, some (enc (bs tk).length ++ (bs tk ++ (enc (bs tw).length ++ (bs tw ++ (enc (clamp it) ++ (enc (clamp ct) ++ (enc (clamp pr) ++ (enc (clamp (one01 bu)) ++ (enc (clamp id) ++ [])))))))))) := by rw [d4]; exact nb_enc (by rw [bs_length]; omega) _
  have d5 : dS X 5 = some (enc (bs tk).length ++ (bs tk ++ (enc (bs tw).length ++ (bs tw ++ (enc (clamp it) ++ (enc (clamp ct) ++ (enc (clamp pr) ++ (enc (clamp (one01 bu)) ++ (enc (clamp id) ++ []))))))))) := by show (nb (dS X 4)).2 = _; rw [h4]
  have v4 : dT X 4 = aw := by unfold dT; rw [h4]; exact strU_bs aw
  have h5 : nb (dS X 5) = (bs tk, some (enc (bs tw).length ++ (bs tw ++ (enc (clamp it) ++ (enc (clamp ct) ++ (enc (clamp pr) ++ (enc (clamp (one01 bu)) ++ (enc (clamp id) ++ [])))))))) := by rw [d5]; exact nb_enc (by rw [bs_length]; omega) _
  have d6 : dS X 6 = some (enc (bs tw).length ++ (bs tw ++ (enc (clamp it) ++ (enc (clamp ct) ++ (enc (clamp pr) ++ (enc (clamp (one01 bu)) ++ (enc (clamp id) ++ []))))))) := by show (nb (dS X 5)).2 = _; rw [h5]
  have v5 : dT X 5 = tk := by unfold dT; rw [h5]; exact strU_bs tk
  have h6 : nb (dS X 6) = (bs tw, some (enc (clamp it) ++ (enc (clamp ct) ++ (enc (clamp pr) ++ (enc (clamp (one01 bu)) ++ (enc (clamp id) ++ [])))))) := by rw [d6]; exact nb_enc (by rw [bs_length]; omega) _
  have d7 : dS X 7 = some (enc (clamp it) ++ (enc (clamp ct) ++ (enc (clamp pr) ++ (enc (clamp (one01 bu)) ++ (enc (clamp id) ++ []))))) := by show (nb (dS X 6)).2 = _; rw [h6]
  have v6 : dT X 6 = tw := by unfold dT; rw [h6]; exact strU_bs tw
  have h7 : nx (dS X 7) = (clamp it, some (enc (clamp ct) ++ (enc (clamp pr) ++ (enc (clamp (one01 bu)) ++ (enc (clamp id) ++ []))))) := by rw [d7]; exact nx_enc (clamp_le _) _
  have d8 : dS X 8 = some (enc (clamp ct) ++ (enc (clamp pr) ++ (enc (clamp (one01 bu)) ++ (enc (clamp id) ++ [])))) := by show (nx (dS X 7)).2 = _; rw [h7]
  have v7 : dN X 7 = it := by unfold dN; rw [h7]; exact clamp_in it0 (by omega)
  have h8 : nx (dS X 8) = (clamp ct, some (enc (clamp pr) ++ (enc (clamp (one01 bu)) ++ (enc (clamp id) ++ [])))) := by rw [d8]; exact nx_enc (clamp_le _) _
  have d9 : dS X 9 = some (enc (clamp pr) ++ (enc (clamp (one01 bu)) ++ (enc (clamp id) ++ []))) := by show (nx (dS X 8)).2 = _; rw [h8]
  have v8 : dN X 8 = ct := by unfold dN; rw [h8]; exact clamp_in ct0 (by omega)
  have h9 : nx (dS X 9) = (clamp pr, some (enc (clamp (one01 bu)) ++ (enc (clamp id) ++ []))) := by rw [d9]; exact nx_enc (clamp_le _) _
  have d10 : dS X 10 = some (enc (clamp (one01 bu)) ++ (enc (clamp id) ++ [])) := by show (nx (dS X 9)).2 = _; rw [h9]
  have v9 : dN X 9 = pr := by unfold dN; rw [h9]; exact clamp_in pr0 (by omega)
  have h10 : nx (dS X 10) = (clamp (one01 bu), some (enc (clamp id) ++ [])) := by rw [d10]; exact nx_enc (clamp_le _) _
  have d11 : dS X 11 = some (enc (clamp id) ++ []) := by show (nx (dS X 10)).2 = _; rw [h10]
  have v10 : dN X 10 = one01 bu := by unfold dN; rw [h10]; exact clamp_in (by cases bu <;> decide) (by cases bu <;> decide)
  have h11 : nx (dS X 11) = (clamp id, some []) := by rw [d11]; exact nx_enc (clamp_le _) _
  have d12 : dS X 12 = some [] := by show (nx (dS X 11)).2 = _; rw [h11]
  have v11 : dN X 11 = id := by unfold dN; rw [h11]; exact clamp_in id0 (by omega)
  have hob : (one01 bu == (1 : Int)) = bu := by cases bu <;> rfl
  have hlt : decide (1 < one01 bu) = false := by cases bu <;> rfl
  have hB : dB X = true := by
    unfold dB dM
    rw [d12, v0, v1, v2, v3, v4, v5, v6, v7, v8, v9, v10, v11, hob, hlt, hm]; rfl
  unfold dV
  rw [hB, v0, v1, v2, v3, v4, v5, v6, v7, v8, v9, v10, v11, hob]; rfl
end Go.Proofs.Ytblknjclkecglaa
