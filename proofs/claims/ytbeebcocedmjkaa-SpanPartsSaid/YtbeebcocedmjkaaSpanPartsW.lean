/- The walk of the law SpanParts: it returns true. -/
import Derived.Test.YtbeebcocedmjkaaSpanPartsP
import Derived.Test.YtbeebcocedmjkaaStepAppend
import Derived.Test.YtbeebcocedmjkaaPartsFlat
import Derived.Deep.DeepCutAuto
import Derived.Deep.RegionLaw
import Derived.Deep.Light
namespace Go.Proofs.Ytbeebcocedmjkaa
open Go.RowKit
set_option linter.unusedVariables false
set_option linter.unusedSimpArgs false

/-- a slice of texts that reads as a list -/
def Texts (w : World) (B : Nat) (A : Option Addr) (ks : List ByteArray) : Prop :=
  ∀ k (h : k < ks.length), ∃ b o, A = some ⟨b, o, none⟩ ∧ b < B ∧ w.cell? ⟨b, o + k, none⟩ = some (.string ks[k])

set_option maxHeartbeats 2000000 in
theorem walkParts1 (A : Option Addr) (c : Nat) (ks : List ByteArray) (key : ByteArray) (w : World) (hl : ks.length ≤ 30) (hcap : ks.length ≤ c) (hc2 : c ≤ maxLen) (hx : Texts w w.heap.size A ks) (hk1 : 1 ≤ key.size) (hk2 : key.size ≤ 16) :
    Calls Try.prog 14 #[.slice A ks.length c, .string key] w fun e w' => e = .returned (.bool true) ∧ Below w.heap.size w w' := by
  obtain ⟨i0, hi, hz0, hz1, hz2⟩ := info_parts Try.infoSpan2
  have HX := Lib.hid hx
  clear hx
  have hl2 : decide ((30 : Int) < (ks.length : Int)) = false := by simp; omega
  have hl3 : decide ((key.size : Int) < 1) = false := by simp; omega
  have hl4 : decide ((16 : Int) < (key.size : Int)) = false := by simp; omega
  go_enter Try.func14, Try.ntmps14
  go_wp2_with fail
  go_loopw [5, 6] (fun l i wr => ∃ (n g cap : Nat) (xs : List (ByteArray × ByteArray)), n ≤ ks.length ∧ i = .int .i64 n ∧ l = .slice (some ⟨g, 0, none⟩) xs.length cap ∧ xs.length ≤ n + 1 ∧ xs.length ≤ cap ∧ cap ≤ maxLen ∧ Hid (ch [] xs) ∧ Hid (Spans wr wr.heap.size (some ⟨g, 0, none⟩) xs) ∧ Below w.heap.size w wr) (fun l i _ => ks.length - (intOf i).toNat)
  case atStart => 
    refine ⟨0, w.heap.size, 1, [(⟨#[]⟩, ⟨#[]⟩)], by omega, rfl, rfl, by simp, by simp, by decide, Lib.hid ⟨by decide +kernel, by decide +kernel, by decide +kernel⟩, Lib.hid (spansOne (by simp) (by simp) (by simp)), by ((repeat (first | (with_reducible exact Below.refl _ _) | (with_reducible assumption) | ((with_reducible refine b_set ?_ ?_); · (first | omega | (simp; done) | (simp; omega))) | ((with_reducible refine b_alloc ?_ ?_); · (first | omega | (simp; done) | (simp; omega))) | (with_reducible refine Below.drew ?_) | (with_reducible refine b_drewN ?_) | ((with_reducible refine b_call (by assumption) ?_ ?_); · (first | omega | (simp; done) | (simp; omega))))); done)⟩
  case round =>
    obtain ⟨n, g, cap, xs, hn, rfl, rfl, hxl, hxc, hcm, HC, HS, hB⟩ := hrel
    obtain ⟨wo, rfl⟩ : ∃ x, x = wr := ⟨_, rfl⟩
    have hBs := hB.size
    by_cases hlt : n < ks.length
    · obtain ⟨b, o, rfl, hb, hk⟩ := HX.out n hlt
      replace hk := bkeep hB hk hb
      go_wp2_with fail
      go_loopw [5, 7] (fun l k wq => ∃ m : Nat, m ≤ xs.length ∧ k = .int .i64 m ∧ l = .slice (some ⟨g, 0, none⟩) xs.length cap ∧ Below wo.heap.size wo wq) (fun _ k _ => xs.length - (intOf k).toNat)
      case atStart => exact ⟨0, by omega, rfl, rfl, Below.refl _ _⟩
      case round =>
        obtain ⟨m, hm, rfl, rfl, hW⟩ := hrel
        obtain ⟨wq, rfl⟩ : ∃ x, x = wr := ⟨_, rfl⟩
        have hWs := hW.size
        replace hk := bkeep hW hk (by omega)
        by_cases hlm : m < xs.length
        · obtain ⟨b', o', e, hb', y0, y1⟩ := HS.out m hlm
          injection e with e; injection e with e1 e2 e3; subst e1 e2
          replace y0 := bkeep hW y0 (by omega)
          replace y1 := bkeep hW y1 (by omega)
          simp only [Nat.zero_add] at y0 y1
          cases hcut : cutB xs[m].1 xs[m].2 ks[n]
          · go_upto_region 10 with fail
            go_cut [8, 9, 10] (fun p q r wx => r = .bool false ∧ Below wq.heap.size wq wx)
            case first =>
              have hkeep : ∀ W, Below wq.heap.size wq W → (Below wq.heap.size wq W ∧ W.cell? ⟨g, m * 2, none⟩ = some (.string xs[m].1) ∧ W.cell? ⟨g, m * 2 + 1, none⟩ = some (.string xs[m].2) ∧ W.cell? ⟨b, o + n, none⟩ = some (.string ks[n])) := fun W hh => ⟨hh, bkeep hh y0 (by omega), bkeep hh y1 (by omega), bkeep hh hk (by omega)⟩
              go_region_held3 (fun W => Below wq.heap.size wq W ∧ W.cell? ⟨g, m * 2, none⟩ = some (.string xs[m].1) ∧ W.cell? ⟨g, m * 2 + 1, none⟩ = some (.string xs[m].2) ∧ W.cell? ⟨b, o + n, none⟩ = some (.string ks[n]))
                (first
                  | (refine hkeep _ ?_; exact (Below.refl _ _).drew)
                  | (refine hkeep _ ?_; exact Below.trans (And.left (by assumption)) (Below.mono (by assumption) (Below.size (And.left (by assumption)))))
                  | (refine hkeep _ ?_; exact Below.alloc (And.left (by assumption)) (Below.size (And.left (by assumption))) _)
                  | (refine hkeep _ ?_; ((repeat (first | (with_reducible exact Below.refl _ _) | (with_reducible assumption) | ((with_reducible refine b_set ?_ ?_); · (first | omega | (simp; done) | (simp; omega))) | ((with_reducible refine b_alloc ?_ ?_); · (first | omega | (simp; done) | (simp; omega))) | (with_reducible refine Below.drew ?_) | (with_reducible refine b_drewN ?_) | ((with_reducible refine b_call (by assumption) ?_ ?_); · (first | omega | (simp; done) | (simp; omega))))); done)))
                (first
                  | (go_at_call 32; refine (spanCut0 _ _ _ _ hcut).mono ?_; rintro e w3 ⟨rfl, hb3⟩; obtain ⟨hc3, hf3⟩ := bcell hb3; have hs3 := hb3.size; (try simp at hs3)))
              all_goals go_wp2_with fail
              all_goals go_meet
              all_goals clear hc3 hf3
              all_goals exact ⟨rfl, by ((repeat (first | (with_reducible exact Below.refl _ _) | (with_reducible assumption) | ((with_reducible refine b_set ?_ ?_); · (first | omega | (simp; done) | (simp; omega))) | ((with_reducible refine b_alloc ?_ ?_); · (first | omega | (simp; done) | (simp; omega))) | (with_reducible refine Below.drew ?_) | (with_reducible refine b_drewN ?_) | ((with_reducible refine b_call (by assumption) ?_ ?_); · (first | omega | (simp; done) | (simp; omega))))); done)⟩
            case rest =>
              obtain ⟨rfl, hD⟩ := hcut
              go_wp2_with fail
              refine ⟨⟨m + 1, by omega, by go_num, rfl, hW.trans (hD.mono hWs)⟩, ?_⟩
              simp [intOf]; omega
          · go_upto_region 10 with fail
            go_cut [8, 9, 10] (fun p q r wx => r = .bool true ∧ Below wq.heap.size wq wx ∧ ∃ P Q : Nat, p = .pointer (some ⟨P, 0, none⟩) ∧ q = .pointer (some ⟨Q, 0, none⟩) ∧ P < wx.heap.size ∧ Q < wx.heap.size ∧ wx.cell? ⟨P, 0, none⟩ = some (.string xs[m].1) ∧ wx.cell? ⟨P, 1, none⟩ = some (.string ks[n]) ∧ wx.cell? ⟨Q, 0, none⟩ = some (.string ks[n]) ∧ wx.cell? ⟨Q, 1, none⟩ = some (.string xs[m].2))
            case first =>
              have hkeep : ∀ W, Below wq.heap.size wq W → (Below wq.heap.size wq W ∧ W.cell? ⟨g, m * 2, none⟩ = some (.string xs[m].1) ∧ W.cell? ⟨g, m * 2 + 1, none⟩ = some (.string xs[m].2) ∧ W.cell? ⟨b, o + n, none⟩ = some (.string ks[n])) := fun W hh => ⟨hh, bkeep hh y0 (by omega), bkeep hh y1 (by omega), bkeep hh hk (by omega)⟩
              go_region_held3 (fun W => Below wq.heap.size wq W ∧ W.cell? ⟨g, m * 2, none⟩ = some (.string xs[m].1) ∧ W.cell? ⟨g, m * 2 + 1, none⟩ = some (.string xs[m].2) ∧ W.cell? ⟨b, o + n, none⟩ = some (.string ks[n]))
                (first
                  | (refine hkeep _ ?_; exact (Below.refl _ _).drew)
                  | (refine hkeep _ ?_; exact Below.trans (And.left (by assumption)) (Below.mono (by assumption) (Below.size (And.left (by assumption)))))
                  | (refine hkeep _ ?_; exact Below.alloc (And.left (by assumption)) (Below.size (And.left (by assumption))) _)
                  | (refine hkeep _ ?_; ((repeat (first | (with_reducible exact Below.refl _ _) | (with_reducible assumption) | ((with_reducible refine b_set ?_ ?_); · (first | omega | (simp; done) | (simp; omega))) | ((with_reducible refine b_alloc ?_ ?_); · (first | omega | (simp; done) | (simp; omega))) | (with_reducible refine Below.drew ?_) | (with_reducible refine b_drewN ?_) | ((with_reducible refine b_call (by assumption) ?_ ?_); · (first | omega | (simp; done) | (simp; omega))))); done)))
                (first
                  | (go_at_call 32; refine (spanCut1 _ _ _ _ hcut).mono ?_; rintro e w3 ⟨rfl, hb3⟩; obtain ⟨hc3, hf3⟩ := bcell hb3; have hs3 := hb3.size; (try simp at hs3)))
              all_goals go_wp2_with fail
              all_goals go_meet
              all_goals clear hc3 hf3
              all_goals exact ⟨rfl, by ((repeat (first | (with_reducible exact Below.refl _ _) | (with_reducible assumption) | ((with_reducible refine b_set ?_ ?_); · (first | omega | (simp; done) | (simp; omega))) | ((with_reducible refine b_alloc ?_ ?_); · (first | omega | (simp; done) | (simp; omega))) | (with_reducible refine Below.drew ?_) | (with_reducible refine b_drewN ?_) | ((with_reducible refine b_call (by assumption) ?_ ?_); · (first | omega | (simp; done) | (simp; omega))))); done), _, _, rfl, rfl, by (first | omega | (simp; done) | (simp; omega)), by (first | omega | (simp; done) | (simp; omega)), by ((repeat (first | (with_reducible assumption) | ((with_reducible refine c_set_same ?_); ((repeat (first | (with_reducible exact h_of (by assumption)) | (with_reducible assumption) | (with_reducible refine h_set ?_) | ((with_reducible refine h_alloc ?_ ?_); · (first | omega | (simp; done) | (simp; omega))) | ((with_reducible refine h_new ?_ ?_) <;> (first | omega | (simp; done) | (simp; omega))) | (with_reducible refine h_drew ?_) | (with_reducible refine h_drewN ?_) | ((with_reducible refine h_keep (by assumption) ?_ ?_); · (first | omega | (simp; done) | (simp; omega))))); done)) | ((with_reducible refine c_set_other ?_ ?_); · (first | omega | (simp; done) | (simp; omega))) | ((with_reducible refine c_alloc ?_ ?_); · (first | omega | (simp; done) | (simp; omega))) | ((with_reducible refine c_new ?_ ?_) <;> (first | omega | (simp; done) | (simp; omega))) | (with_reducible refine c_drew ?_) | (with_reducible refine c_drewN ?_) | ((with_reducible refine c_keep (by assumption) ?_ ?_); · (first | omega | (simp; done) | (simp; omega))))); done), by ((repeat (first | (with_reducible assumption) | ((with_reducible refine c_set_same ?_); ((repeat (first | (with_reducible exact h_of (by assumption)) | (with_reducible assumption) | (with_reducible refine h_set ?_) | ((with_reducible refine h_alloc ?_ ?_); · (first | omega | (simp; done) | (simp; omega))) | ((with_reducible refine h_new ?_ ?_) <;> (first | omega | (simp; done) | (simp; omega))) | (with_reducible refine h_drew ?_) | (with_reducible refine h_drewN ?_) | ((with_reducible refine h_keep (by assumption) ?_ ?_); · (first | omega | (simp; done) | (simp; omega))))); done)) | ((with_reducible refine c_set_other ?_ ?_); · (first | omega | (simp; done) | (simp; omega))) | ((with_reducible refine c_alloc ?_ ?_); · (first | omega | (simp; done) | (simp; omega))) | ((with_reducible refine c_new ?_ ?_) <;> (first | omega | (simp; done) | (simp; omega))) | (with_reducible refine c_drew ?_) | (with_reducible refine c_drewN ?_) | ((with_reducible refine c_keep (by assumption) ?_ ?_); · (first | omega | (simp; done) | (simp; omega))))); done), by ((repeat (first | (with_reducible assumption) | ((with_reducible refine c_set_same ?_); ((repeat (first | (with_reducible exact h_of (by assumption)) | (with_reducible assumption) | (with_reducible refine h_set ?_) | ((with_reducible refine h_alloc ?_ ?_); · (first | omega | (simp; done) | (simp; omega))) | ((with_reducible refine h_new ?_ ?_) <;> (first | omega | (simp; done) | (simp; omega))) | (with_reducible refine h_drew ?_) | (with_reducible refine h_drewN ?_) | ((with_reducible refine h_keep (by assumption) ?_ ?_); · (first | omega | (simp; done) | (simp; omega))))); done)) | ((with_reducible refine c_set_other ?_ ?_); · (first | omega | (simp; done) | (simp; omega))) | ((with_reducible refine c_alloc ?_ ?_); · (first | omega | (simp; done) | (simp; omega))) | ((with_reducible refine c_new ?_ ?_) <;> (first | omega | (simp; done) | (simp; omega))) | (with_reducible refine c_drew ?_) | (with_reducible refine c_drewN ?_) | ((with_reducible refine c_keep (by assumption) ?_ ?_); · (first | omega | (simp; done) | (simp; omega))))); done), by ((repeat (first | (with_reducible assumption) | ((with_reducible refine c_set_same ?_); ((repeat (first | (with_reducible exact h_of (by assumption)) | (with_reducible assumption) | (with_reducible refine h_set ?_) | ((with_reducible refine h_alloc ?_ ?_); · (first | omega | (simp; done) | (simp; omega))) | ((with_reducible refine h_new ?_ ?_) <;> (first | omega | (simp; done) | (simp; omega))) | (with_reducible refine h_drew ?_) | (with_reducible refine h_drewN ?_) | ((with_reducible refine h_keep (by assumption) ?_ ?_); · (first | omega | (simp; done) | (simp; omega))))); done)) | ((with_reducible refine c_set_other ?_ ?_); · (first | omega | (simp; done) | (simp; omega))) | ((with_reducible refine c_alloc ?_ ?_); · (first | omega | (simp; done) | (simp; omega))) | ((with_reducible refine c_new ?_ ?_) <;> (first | omega | (simp; done) | (simp; omega))) | (with_reducible refine c_drew ?_) | (with_reducible refine c_drewN ?_) | ((with_reducible refine c_keep (by assumption) ?_ ?_); · (first | omega | (simp; done) | (simp; omega))))); done)⟩
            case rest =>
              have HCUT := Lib.hid (ch_cut xs [] m ks[n] hlm HC.out (by assumption))
              obtain ⟨rfl, hD, P, Q, rfl, rfl, hP, hQ, p0, p1, q0, q1⟩ := hcut
              obtain ⟨wx, rfl⟩ : ∃ x, x = wc := ⟨_, rfl⟩
              have hDx : Below wo.heap.size wo wx := hW.trans (hD.mono hWs)
              have hDs := hDx.size
              have hSx := spans_below HS.out hDx hDs
              have eT : (xs.take m).length = m := by simp; omega
              have HT : Hid (Cells wx wx.heap.size (some ⟨g, 0, none⟩) m cap 2 (flatS (xs.take m))) := by
                have := cells_of_spans (c := cap) (spans_take m hSx)
                rw [eT] at this
                exact Lib.hid this
              have HD := Lib.hid (spans_drop (m + 1) hSx)
              clear hSx
              have hm0 : (0 : Int) ≤ (m : Int) := by omega
              have hm1 : (m : Int) ≤ (cap : Int) := by omega
              go_upto_region 12 with fail
              go_cut [11] (fun mm wy => Below wx.heap.size wx wy ∧ ∃ G C, mm = .slice (some ⟨G, 0, none⟩) (m + 2) C ∧ wy.ownsRow wx.heap.size 45 2 (.slice (some ⟨G, 0, none⟩) (m + 2) C) (m + 2) (flatS (xs.take m ++ [(xs[m].1, ks[n]), (ks[n], xs[m].2)])))
              case first =>
                have hkeep : ∀ W, Below wx.heap.size wx W → (Below wx.heap.size wx W ∧ W.cell? ⟨P, 0, none⟩ = some (.string xs[m].1) ∧ W.cell? ⟨P, 1, none⟩ = some (.string ks[n]) ∧ W.cell? ⟨Q, 0, none⟩ = some (.string ks[n]) ∧ W.cell? ⟨Q, 1, none⟩ = some (.string xs[m].2)) := fun W hh => ⟨hh, bkeep hh p0 (by omega), bkeep hh p1 (by omega), bkeep hh q0 (by omega), bkeep hh q1 (by omega)⟩
                go_region_held3 (fun W => Below wx.heap.size wx W ∧ W.cell? ⟨P, 0, none⟩ = some (.string xs[m].1) ∧ W.cell? ⟨P, 1, none⟩ = some (.string ks[n]) ∧ W.cell? ⟨Q, 0, none⟩ = some (.string ks[n]) ∧ W.cell? ⟨Q, 1, none⟩ = some (.string xs[m].2))
                  (first | (refine hkeep _ ?_; ((repeat (first | (with_reducible exact Below.refl _ _) | (with_reducible assumption) | ((with_reducible refine b_set ?_ ?_); · (first | omega | (simp; done) | (simp; omega))) | ((with_reducible refine b_alloc ?_ ?_); · (first | omega | (simp; done) | (simp; omega))) | (with_reducible refine Below.drew ?_) | (with_reducible refine b_drewN ?_) | ((with_reducible refine b_call (by assumption) ?_ ?_); · (first | omega | (simp; done) | (simp; omega))))); done)))
                  (first
                    | (refine step_append_row rfl (.tmp 55) (.tmp 58) 54 rfl wx.heap.size 45 i0 (.agg #[.string ⟨#[]⟩, .string ⟨#[]⟩]) 2 32 Try.underlying54 hi hz0 hz1 hz2 rfl (by decide) _ _ 0 [] rfl (by first | exact owns_lit0 (by (first | omega | (simp; done) | (simp; omega))) (by (first | omega | (simp; done) | (simp; omega))) | exact World.ownsRow.alloc (owns_lit0 (by (first | omega | (simp; done) | (simp; omega))) (by (first | omega | (simp; done) | (simp; omega)))) _) wx.heap.size ⟨g, 0, none⟩ m cap (flatS (xs.take m)) rfl (cells_keep HT.out (by ((repeat (first | (with_reducible exact Below.refl _ _) | (with_reducible assumption) | ((with_reducible refine b_set ?_ ?_); · (first | omega | (simp; done) | (simp; omega))) | ((with_reducible refine b_alloc ?_ ?_); · (first | omega | (simp; done) | (simp; omega))) | (with_reducible refine Below.drew ?_) | (with_reducible refine b_drewN ?_) | ((with_reducible refine b_call (by assumption) ?_ ?_); · (first | omega | (simp; done) | (simp; omega))))); done)) (Nat.le_refl _)) (flatS_one _) (by unfold maxLen; omega) (by omega) (by (first | omega | (simp; done) | (simp; omega))) m (by omega) (flatS (xs.take m)) rfl ?_; intro G1 C1 w4 hown4 hb4 hfar4; have hs4 := hb4.size; (try simp at hs4))
                    | (refine step_append_row rfl (.tmp 59) (.tmp 62) 54 rfl wx.heap.size 45 i0 (.agg #[.string ⟨#[]⟩, .string ⟨#[]⟩]) 2 32 Try.underlying54 hi hz0 hz1 hz2 rfl (by decide) _ _ m (flatS (xs.take m)) rfl (by first | exact hown4 | exact World.ownsRow.alloc hown4 _) _ _ 2 2 [.string xs[m].1, .string ks[n], .string ks[n], .string xs[m].2] rfl (cells4 (Nat.lt_succ_self _) (by (first | (((repeat (first | (with_reducible assumption) | ((with_reducible refine c_set_same ?_); ((repeat (first | (with_reducible exact h_of (by assumption)) | (with_reducible assumption) | (with_reducible refine h_set ?_) | ((with_reducible refine h_alloc ?_ ?_); · (first | omega | (simp; done) | (simp; omega))) | ((with_reducible refine h_new ?_ ?_) <;> (first | omega | (simp; done) | (simp; omega))) | (with_reducible refine h_drew ?_) | (with_reducible refine h_drewN ?_) | ((with_reducible refine h_keep (by assumption) ?_ ?_); · (first | omega | (simp; done) | (simp; omega))))); done)) | ((with_reducible refine c_set_other ?_ ?_); · (first | omega | (simp; done) | (simp; omega))) | ((with_reducible refine c_alloc ?_ ?_); · (first | omega | (simp; done) | (simp; omega))) | ((with_reducible refine c_new ?_ ?_) <;> (first | omega | (simp; done) | (simp; omega))) | (with_reducible refine c_drew ?_) | (with_reducible refine c_drewN ?_) | ((with_reducible refine c_keep (by assumption) ?_ ?_); · (first | omega | (simp; done) | (simp; omega))))); done)) | (refine (hfar4 _ _ (by (first | omega | (simp; done) | (simp; omega))) (by (first | omega | (simp; done) | (simp; omega)))).trans ?_; (((repeat (first | (with_reducible assumption) | ((with_reducible refine c_set_same ?_); ((repeat (first | (with_reducible exact h_of (by assumption)) | (with_reducible assumption) | (with_reducible refine h_set ?_) | ((with_reducible refine h_alloc ?_ ?_); · (first | omega | (simp; done) | (simp; omega))) | ((with_reducible refine h_new ?_ ?_) <;> (first | omega | (simp; done) | (simp; omega))) | (with_reducible refine h_drew ?_) | (with_reducible refine h_drewN ?_) | ((with_reducible refine h_keep (by assumption) ?_ ?_); · (first | omega | (simp; done) | (simp; omega))))); done)) | ((with_reducible refine c_set_other ?_ ?_); · (first | omega | (simp; done) | (simp; omega))) | ((with_reducible refine c_alloc ?_ ?_); · (first | omega | (simp; done) | (simp; omega))) | ((with_reducible refine c_new ?_ ?_) <;> (first | omega | (simp; done) | (simp; omega))) | (with_reducible refine c_drew ?_) | (with_reducible refine c_drewN ?_) | ((with_reducible refine c_keep (by assumption) ?_ ?_); · (first | omega | (simp; done) | (simp; omega))))); done))))) (by (first | (((repeat (first | (with_reducible assumption) | ((with_reducible refine c_set_same ?_); ((repeat (first | (with_reducible exact h_of (by assumption)) | (with_reducible assumption) | (with_reducible refine h_set ?_) | ((with_reducible refine h_alloc ?_ ?_); · (first | omega | (simp; done) | (simp; omega))) | ((with_reducible refine h_new ?_ ?_) <;> (first | omega | (simp; done) | (simp; omega))) | (with_reducible refine h_drew ?_) | (with_reducible refine h_drewN ?_) | ((with_reducible refine h_keep (by assumption) ?_ ?_); · (first | omega | (simp; done) | (simp; omega))))); done)) | ((with_reducible refine c_set_other ?_ ?_); · (first | omega | (simp; done) | (simp; omega))) | ((with_reducible refine c_alloc ?_ ?_); · (first | omega | (simp; done) | (simp; omega))) | ((with_reducible refine c_new ?_ ?_) <;> (first | omega | (simp; done) | (simp; omega))) | (with_reducible refine c_drew ?_) | (with_reducible refine c_drewN ?_) | ((with_reducible refine c_keep (by assumption) ?_ ?_); · (first | omega | (simp; done) | (simp; omega))))); done)) | (refine (hfar4 _ _ (by (first | omega | (simp; done) | (simp; omega))) (by (first | omega | (simp; done) | (simp; omega)))).trans ?_; (((repeat (first | (with_reducible assumption) | ((with_reducible refine c_set_same ?_); ((repeat (first | (with_reducible exact h_of (by assumption)) | (with_reducible assumption) | (with_reducible refine h_set ?_) | ((with_reducible refine h_alloc ?_ ?_); · (first | omega | (simp; done) | (simp; omega))) | ((with_reducible refine h_new ?_ ?_) <;> (first | omega | (simp; done) | (simp; omega))) | (with_reducible refine h_drew ?_) | (with_reducible refine h_drewN ?_) | ((with_reducible refine h_keep (by assumption) ?_ ?_); · (first | omega | (simp; done) | (simp; omega))))); done)) | ((with_reducible refine c_set_other ?_ ?_); · (first | omega | (simp; done) | (simp; omega))) | ((with_reducible refine c_alloc ?_ ?_); · (first | omega | (simp; done) | (simp; omega))) | ((with_reducible refine c_new ?_ ?_) <;> (first | omega | (simp; done) | (simp; omega))) | (with_reducible refine c_drew ?_) | (with_reducible refine c_drewN ?_) | ((with_reducible refine c_keep (by assumption) ?_ ?_); · (first | omega | (simp; done) | (simp; omega))))); done))))) (by (first | (((repeat (first | (with_reducible assumption) | ((with_reducible refine c_set_same ?_); ((repeat (first | (with_reducible exact h_of (by assumption)) | (with_reducible assumption) | (with_reducible refine h_set ?_) | ((with_reducible refine h_alloc ?_ ?_); · (first | omega | (simp; done) | (simp; omega))) | ((with_reducible refine h_new ?_ ?_) <;> (first | omega | (simp; done) | (simp; omega))) | (with_reducible refine h_drew ?_) | (with_reducible refine h_drewN ?_) | ((with_reducible refine h_keep (by assumption) ?_ ?_); · (first | omega | (simp; done) | (simp; omega))))); done)) | ((with_reducible refine c_set_other ?_ ?_); · (first | omega | (simp; done) | (simp; omega))) | ((with_reducible refine c_alloc ?_ ?_); · (first | omega | (simp; done) | (simp; omega))) | ((with_reducible refine c_new ?_ ?_) <;> (first | omega | (simp; done) | (simp; omega))) | (with_reducible refine c_drew ?_) | (with_reducible refine c_drewN ?_) | ((with_reducible refine c_keep (by assumption) ?_ ?_); · (first | omega | (simp; done) | (simp; omega))))); done)) | (refine (hfar4 _ _ (by (first | omega | (simp; done) | (simp; omega))) (by (first | omega | (simp; done) | (simp; omega)))).trans ?_; (((repeat (first | (with_reducible assumption) | ((with_reducible refine c_set_same ?_); ((repeat (first | (with_reducible exact h_of (by assumption)) | (with_reducible assumption) | (with_reducible refine h_set ?_) | ((with_reducible refine h_alloc ?_ ?_); · (first | omega | (simp; done) | (simp; omega))) | ((with_reducible refine h_new ?_ ?_) <;> (first | omega | (simp; done) | (simp; omega))) | (with_reducible refine h_drew ?_) | (with_reducible refine h_drewN ?_) | ((with_reducible refine h_keep (by assumption) ?_ ?_); · (first | omega | (simp; done) | (simp; omega))))); done)) | ((with_reducible refine c_set_other ?_ ?_); · (first | omega | (simp; done) | (simp; omega))) | ((with_reducible refine c_alloc ?_ ?_); · (first | omega | (simp; done) | (simp; omega))) | ((with_reducible refine c_new ?_ ?_) <;> (first | omega | (simp; done) | (simp; omega))) | (with_reducible refine c_drew ?_) | (with_reducible refine c_drewN ?_) | ((with_reducible refine c_keep (by assumption) ?_ ?_); · (first | omega | (simp; done) | (simp; omega))))); done))))) (by (first | (((repeat (first | (with_reducible assumption) | ((with_reducible refine c_set_same ?_); ((repeat (first | (with_reducible exact h_of (by assumption)) | (with_reducible assumption) | (with_reducible refine h_set ?_) | ((with_reducible refine h_alloc ?_ ?_); · (first | omega | (simp; done) | (simp; omega))) | ((with_reducible refine h_new ?_ ?_) <;> (first | omega | (simp; done) | (simp; omega))) | (with_reducible refine h_drew ?_) | (with_reducible refine h_drewN ?_) | ((with_reducible refine h_keep (by assumption) ?_ ?_); · (first | omega | (simp; done) | (simp; omega))))); done)) | ((with_reducible refine c_set_other ?_ ?_); · (first | omega | (simp; done) | (simp; omega))) | ((with_reducible refine c_alloc ?_ ?_); · (first | omega | (simp; done) | (simp; omega))) | ((with_reducible refine c_new ?_ ?_) <;> (first | omega | (simp; done) | (simp; omega))) | (with_reducible refine c_drew ?_) | (with_reducible refine c_drewN ?_) | ((with_reducible refine c_keep (by assumption) ?_ ?_); · (first | omega | (simp; done) | (simp; omega))))); done)) | (refine (hfar4 _ _ (by (first | omega | (simp; done) | (simp; omega))) (by (first | omega | (simp; done) | (simp; omega)))).trans ?_; (((repeat (first | (with_reducible assumption) | ((with_reducible refine c_set_same ?_); ((repeat (first | (with_reducible exact h_of (by assumption)) | (with_reducible assumption) | (with_reducible refine h_set ?_) | ((with_reducible refine h_alloc ?_ ?_); · (first | omega | (simp; done) | (simp; omega))) | ((with_reducible refine h_new ?_ ?_) <;> (first | omega | (simp; done) | (simp; omega))) | (with_reducible refine h_drew ?_) | (with_reducible refine h_drewN ?_) | ((with_reducible refine h_keep (by assumption) ?_ ?_); · (first | omega | (simp; done) | (simp; omega))))); done)) | ((with_reducible refine c_set_other ?_ ?_); · (first | omega | (simp; done) | (simp; omega))) | ((with_reducible refine c_alloc ?_ ?_); · (first | omega | (simp; done) | (simp; omega))) | ((with_reducible refine c_new ?_ ?_) <;> (first | omega | (simp; done) | (simp; omega))) | (with_reducible refine c_drew ?_) | (with_reducible refine c_drewN ?_) | ((with_reducible refine c_keep (by assumption) ?_ ?_); · (first | omega | (simp; done) | (simp; omega))))); done)))))) (by intro u hu; simp at hu; rcases hu with rfl | rfl | rfl <;> rfl) (by unfold maxLen; omega) (by omega) (by (first | omega | (simp; done) | (simp; omega))) (m + 2) rfl (flatS (xs.take m ++ [(xs[m].1, ks[n]), (ks[n], xs[m].2)])) (by rw [flatS_app]; rfl) ?_; intro G2 C2 w5 hown5 hb5 hfar5))
                all_goals go_wp2_with fail
                all_goals go_meet
                all_goals exact ⟨by ((repeat (first | (with_reducible exact Below.refl _ _) | (with_reducible assumption) | ((with_reducible refine b_set ?_ ?_); · (first | omega | (simp; done) | (simp; omega))) | ((with_reducible refine b_alloc ?_ ?_); · (first | omega | (simp; done) | (simp; omega))) | (with_reducible refine Below.drew ?_) | (with_reducible refine b_drewN ?_) | ((with_reducible refine b_call (by assumption) ?_ ?_); · (first | omega | (simp; done) | (simp; omega))))); done), _, _, rfl, hown5⟩
              case rest =>
                obtain ⟨hE, G, C, rfl, hown⟩ := hcut
                obtain ⟨wy, rfl⟩ : ∃ x, x = wc := ⟨_, rfl⟩
                have hEs := hE.size
                have HO := Lib.hid hown
                clear hown
                by_cases hmc : m + 1 = cap
                · have hdr : xs.drop (m + 1) = [] := List.drop_eq_nil_of_le (by omega)
                  go_wp2_with (at_builtin; go_must (refine wpList_append_row rfl (.tmp 64) (.tmp 68) 54 rfl wx.heap.size 45 i0 (.agg #[.string ⟨#[]⟩, .string ⟨#[]⟩]) 2 32 Try.underlying54 hi hz0 hz1 hz2 rfl (by decide) _ (m + 2) (flatS (xs.take m ++ [(xs[m].1, ks[n]), (ks[n], xs[m].2)])) rfl HO.out wy.heap.size (some ⟨g, 0, none⟩) 0 0 [] rfl cells_zero (by simp) (by unfold maxLen; omega) (by omega) (by (first | omega | (simp; done) | (simp; omega))) ?_); intro v5 w5 hown5 hb5)
                  have hs5 := hb5.size; (try simp at hs5)
                  have e0 : flatS (xs.drop (m + 1)) = [] := by rw [hdr]; rfl
                  rw [← e0, ← flatS_app] at hown5
                  obtain ⟨nx, hnx⟩ : ∃ z, z = xs.take m ++ [(xs[m].1, ks[n]), (ks[n], xs[m].2)] ++ xs.drop (m + 1) := ⟨_, rfl⟩
                  rw [← hnx] at hown5
                  have hC2 := HCUT.out
                  rw [← hnx] at hC2
                  have hlen : m + 2 + 0 = nx.length := by rw [hnx]; simp; omega
                  rw [hlen] at hown5
                  obtain ⟨G', C', rfl, hg1, hg2, hg3, hg4⟩ := own_form hown5 (by omega)
                  refine ⟨⟨n + 1, G', C', nx, by omega, by go_num, rfl, by omega, hg3, hg4, Lib.hid hC2, Lib.hid (spans_own hown5 hg2), hB.trans ((hDx.trans ((hE.trans hb5).mono hDs)).mono hBs)⟩, ?_⟩
                  simp [intOf]; omega
                · have HDy : Hid (Cells wy wy.heap.size (some ⟨g, (m + 1) * 2, none⟩) (xs.length - (m + 1)) (cap - (m + 1)) 2 (flatS (xs.drop (m + 1)))) := by
                    have := cells_of_spans (c := cap - (m + 1)) (spans_below HD.out hE hEs)
                    rw [Nat.zero_add, List.length_drop] at this
                    exact Lib.hid this
                  go_wp2_with (at_builtin; go_must (refine wpList_append_row rfl (.tmp 64) (.tmp 68) 54 rfl wx.heap.size 45 i0 (.agg #[.string ⟨#[]⟩, .string ⟨#[]⟩]) 2 32 Try.underlying54 hi hz0 hz1 hz2 rfl (by decide) _ (m + 2) (flatS (xs.take m ++ [(xs[m].1, ks[n]), (ks[n], xs[m].2)])) rfl HO.out wy.heap.size (some ⟨g, (m + 1) * 2, none⟩) (xs.length - (m + 1)) (cap - (m + 1)) (flatS (xs.drop (m + 1))) rfl HDy.out (flatS_one _) (by unfold maxLen; omega) (by omega) (by (first | omega | (simp; done) | (simp; omega))) ?_); intro v5 w5 hown5 hb5)
                  have hs5 := hb5.size; (try simp at hs5)
                  rw [← flatS_app] at hown5
                  obtain ⟨nx, hnx⟩ : ∃ z, z = xs.take m ++ [(xs[m].1, ks[n]), (ks[n], xs[m].2)] ++ xs.drop (m + 1) := ⟨_, rfl⟩
                  rw [← hnx] at hown5
                  have hC2 := HCUT.out
                  rw [← hnx] at hC2
                  have hlen : m + 2 + (xs.length - (m + 1)) = nx.length := by rw [hnx]; simp; omega
                  rw [hlen] at hown5
                  obtain ⟨G', C', rfl, hg1, hg2, hg3, hg4⟩ := own_form hown5 (by omega)
                  refine ⟨⟨n + 1, G', C', nx, by omega, by go_num, rfl, by omega, hg3, hg4, Lib.hid hC2, Lib.hid (spans_own hown5 hg2), hB.trans ((hDx.trans ((hE.trans hb5).mono hDs)).mono hBs)⟩, ?_⟩
                  simp [intOf]; omega
        · go_wp2_with fail
          refine ⟨⟨n + 1, g, cap, xs, by omega, by go_num, rfl, by omega, hxc, hcm, HC, Lib.hid (spans_below HS.out hW hWs), hB.trans (hW.mono hBs)⟩, ?_⟩
          simp [intOf]; omega
    · have hne : n = ks.length := by omega
      subst hne
      have HN := Lib.hid (ch_one xs [] key HC.out hk1 hk2 (less_nil _))
      have HL := Lib.hid (ch_all HC.out)
      have hxp := ch_ne HC.out
      go_wp2_with fail
      go_loopw [12, 13] (fun q k wr => ∃ j : Nat, j ≤ xs.length ∧ k = .int .i64 j ∧ q = .int .i64 ((xs.take j).countP (fun p => inB p.1 p.2 key) : Nat) ∧ Below wo.heap.size wo wr) (fun _ k _ => xs.length - (intOf k).toNat)
      case atStart => exact ⟨0, by omega, rfl, by simp, Below.refl _ _⟩
      case round =>
        obtain ⟨j, hj, rfl, rfl, hW⟩ := hrel
        obtain ⟨wq, rfl⟩ : ∃ x, x = wr := ⟨_, rfl⟩
        have hWs := hW.size
        by_cases hlj : j < xs.length
        · obtain ⟨b', o', e, hb', y0, y1⟩ := HS.out j hlj
          injection e with e; injection e with e1 e2 e3; subst e1 e2
          replace y0 := bkeep hW y0 (by omega)
          replace y1 := bkeep hW y1 (by omega)
          simp only [Nat.zero_add] at y0 y1
          have hcp : (xs.take (j + 1)).countP (fun p => inB p.1 p.2 key) = (xs.take j).countP (fun p => inB p.1 p.2 key) + (if inB xs[j].1 xs[j].2 key then 1 else 0) := by
            rw [List.take_succ_eq_append_getElem hlj, List.countP_append, List.countP_singleton]
          have hcq : (xs.take j).countP (fun p => inB p.1 p.2 key) ≤ j := by
            have := List.countP_le_length (p := fun p => inB p.1 p.2 key) (l := xs.take j)
            rw [List.length_take] at this; omega
          generalize (xs.take j).countP (fun p => inB p.1 p.2 key) = cq at hcp hcq ⊢
          go_wp2_with fail
          refine (spanIn _ _ _ _).mono ?_
          rintro e w3 ⟨rfl, hb3⟩
          have hs3 := hb3.size; (try simp at hs3)
          cases hin : inB xs[j].1 xs[j].2 key
          all_goals rw [hin] at hcp
          all_goals go_wp2_with fail
          all_goals refine ⟨⟨j + 1, by omega, by go_num, by rw [hcp]; go_num, by ((repeat (first | (with_reducible exact Below.refl _ _) | (with_reducible assumption) | ((with_reducible refine b_set ?_ ?_); · (first | omega | (simp; done) | (simp; omega))) | ((with_reducible refine b_alloc ?_ ?_); · (first | omega | (simp; done) | (simp; omega))) | (with_reducible refine Below.drew ?_) | (with_reducible refine b_drewN ?_) | ((with_reducible refine b_call (by assumption) ?_ ?_); · (first | omega | (simp; done) | (simp; omega))))); done)⟩, ?_⟩
          all_goals simp [intOf]
          all_goals omega
        · have hje : j = xs.length := by omega
          subst hje
          rw [List.take_length, HN.out]
          obtain ⟨f, t, r, hxe⟩ : ∃ f t r, xs = (f, t) :: r := by
            cases xs with
            | nil => simp at hxp
            | cons p r => exact ⟨p.1, p.2, r, rfl⟩
          have HSq := Lib.hid (spans_below HS.out hW hWs)
          clear HN
          subst hxe
          go_wp2_with fail
          refine (spanAll1 _ cap f t r wq (by simp at hxl; omega) (by simpa using hxc) HSq.out).mono ?_
          rintro e w3 ⟨hz, hb3⟩
          obtain rfl : e = .returned (.bool true) := by rw [hz, HL.out]
          clear hz
          have hs3 := hb3.size
          go_wp2_with fail
          refine (spanKnown _).mono ?_
          rintro e w4 ⟨rfl, hb4⟩
          go_wp2_with fail
          go_ret
          exact ⟨rfl, by ((repeat (first | (with_reducible exact Below.refl _ _) | (with_reducible assumption) | ((with_reducible refine b_set ?_ ?_); · (first | omega | (simp; done) | (simp; omega))) | ((with_reducible refine b_alloc ?_ ?_); · (first | omega | (simp; done) | (simp; omega))) | (with_reducible refine Below.drew ?_) | (with_reducible refine b_drewN ?_) | ((with_reducible refine b_call (by assumption) ?_ ?_); · (first | omega | (simp; done) | (simp; omega))))); done)⟩

theorem walkParts (A : Option Addr) (c : Nat) (ks : List ByteArray) (key : ByteArray) (w : World) (hcap : ks.length ≤ c) (hc2 : c ≤ maxLen) (hx : Texts w w.heap.size A ks) :
    Calls Try.prog 14 #[.slice A ks.length c, .string key] w fun e w' => e = .returned (.bool true) ∧ Below w.heap.size w w' := by
  by_cases hl : ks.length ≤ 30
  · by_cases hk1 : 1 ≤ key.size
    · by_cases hk2 : key.size ≤ 16
      · exact walkParts1 A c ks key w hl hcap hc2 hx hk1 hk2
      · have hl2 : decide ((30 : Int) < (ks.length : Int)) = false := by simp; omega
        have hl3 : decide ((key.size : Int) < 1) = false := by simp; omega
        have hl4 : decide ((16 : Int) < (key.size : Int)) = true := by simp; omega
        clear hx
        go_enter Try.func14, Try.ntmps14
        go_wp2_with fail
        go_ret
        exact ⟨rfl, Below.refl _ _⟩
    · have hl2 : decide ((30 : Int) < (ks.length : Int)) = false := by simp; omega
      have hl3 : decide ((key.size : Int) < 1) = true := by simp; omega
      clear hx
      go_enter Try.func14, Try.ntmps14
      go_wp2_with fail
      go_ret
      exact ⟨rfl, Below.refl _ _⟩
  · have hl2 : decide ((30 : Int) < (ks.length : Int)) = true := by simp; omega
    clear hx
    go_enter Try.func14, Try.ntmps14
    go_wp2_with fail
    go_ret
    exact ⟨rfl, Below.refl _ _⟩

end Go.Proofs.Ytbeebcocedmjkaa
