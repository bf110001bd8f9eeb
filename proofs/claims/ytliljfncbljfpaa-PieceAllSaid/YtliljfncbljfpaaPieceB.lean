/- piece.Out: Ack and Next. -/
import Derived.Test.YtliljfncbljfpaaPieceA
import Derived.StillTailTactics
namespace Go.Proofs.Ytliljfncbljfpaa
open Go.RowKit
set_option linter.unusedVariables false
set_option linter.unusedSimpArgs false

theorem poMark (b L : Nat) (row : List Nat) (come n : Nat) (w : World) (h : Po w b L row come) :
    Calls Try.prog 69 #[.pointer (some ⟨b, 0, none⟩), .int .i64 n] w fun e w' => e = .returned (.tuple #[]) ∧ w' = w.setCell ⟨b, 1, none⟩ (.int .i64 n) := by
  have hcm := h.come
  have f := h.free
  have f1 := f 1
  clear h
  go_enter Try.func69, Try.ntmps69
  go_wp2_with fail
  refine bodyPost_end (v := .tuple #[]) (by simp [results, Try.results69, go_sem]) rfl ⟨rfl, rfl⟩

theorem poSettle (b L : Nat) (row : List Nat) (come n : Nat) (least most : Int) (w : World) (h : Po w b L row come) (h0 : least ≤ n) (h1 : (n : Int) ≤ most) :
    Calls Try.prog 68 #[.int .i64 n, .int .i64 least, .int .i64 most, .func (Fn.func 69) #[.pointer (some ⟨b, 0, none⟩)] #[]] w fun e w' => e = .returned (.bool true) ∧ w' = w.setCell ⟨b, 1, none⟩ (.int .i64 n) := by
  have H := Lib.hid h
  clear h
  go_enter Try.func68, Try.ntmps68
  go_wp2_with fail
  refine (poMark b L row come n _ H.out).mono ?_
  rintro e w1 ⟨rfl, rfl⟩
  go_wp2_with fail
  go_ret
  exact ⟨rfl, rfl⟩
theorem poSettleNo (n least most : Int) (v : Value) (w : World) (h0 : n < least ∨ most < n) :
    Calls Try.prog 68 #[.int .i64 n, .int .i64 least, .int .i64 most, v] w fun e w' => e = .returned (.bool false) ∧ w' = w := by
  by_cases h1 : n < least
  · clear h0
    go_enter Try.func68, Try.ntmps68
    go_wp2_with fail
    go_ret
    exact ⟨rfl, rfl⟩
  · have h2 : most < n := by omega
    clear h0
    go_enter Try.func68, Try.ntmps68
    go_wp2_with fail
    go_ret
    exact ⟨rfl, rfl⟩

theorem Po.set {w : World} {b L : Nat} {row : List Nat} {come : Nat} (h : Po w b L row come) (n : Nat) : Po (w.setCell ⟨b, 1, none⟩ (.int .i64 n)) b L row n := by
  obtain ⟨v, hv, hown, hlt⟩ := h.row
  have hcm := h.come
  have hlow := h.low
  refine ⟨⟨v, c_set_other (Or.inr (by decide)) hv, ?_, hlt⟩, c_set_same (h_of hcm), fun j => f_set (h.free j), by simpa [World.setCell] using hlow, h.high⟩
  refine hown.kept (row := some b) ⟨rfl, rfl, rfl, by simp [World.setCell], fun k _ hne => Below.heap_setCell _ _ _ _ (fun e => hne (by rw [e]))⟩ ?_
  cases hb : v.ownBlock with
  | none => exact .inl rfl
  | some g => exact .inr (by have := hlt g hb; intro e; injection e; omega)

set_option maxHeartbeats 1000000 in
set_option maxRecDepth 10000 in
theorem poAck (b L : Nat) (row : List Nat) (come n : Nat) (w : World) (h : Po w b L row come) (hl : row.length ≤ 1000000) (h0 : come + 1 ≤ n) (h1 : n ≤ row.length) :
    Calls Try.prog 34 #[.pointer (some ⟨b, 0, none⟩), .int .i64 n] w fun e w' => e = .returned (.bool true) ∧ Po w' b L row n ∧ w' = w.drew.setCell ⟨b, 1, none⟩ (.int .i64 n) := by
  obtain ⟨v, hv, hown, _⟩ := h.row
  obtain ⟨A, c, rfl, _, _, _⟩ := row_cells hown
  have hcm := h.come
  have f := h.free
  have f1 := f 1
  have hlow := h.low
  have H := Lib.hid (h.drewN 1)
  clear h hown
  go_enter Try.func34, Try.ntmps34
  go_wp2_with fail
  go_still_tail 13, (by kernel_rfl)
  go_wp2_with fail
  refine (poSettle b L row come n _ _ _ H.out (by omega) (by omega)).mono ?_
  rintro e w1 ⟨rfl, rfl⟩
  go_wp2_with fail
  go_ret
  exact ⟨rfl, Po.set H.out n, rfl⟩

set_option maxHeartbeats 1000000 in
set_option maxRecDepth 10000 in
theorem poAckNo (b L : Nat) (row : List Nat) (come : Nat) (n : Int) (w : World) (h : Po w b L row come) (hl : row.length ≤ 1000000) (hc : come ≤ row.length) (h0 : n < come + 1 ∨ row.length < n) :
    Calls Try.prog 34 #[.pointer (some ⟨b, 0, none⟩), .int .i64 n] w fun e w' => e = .returned (.bool false) ∧ w' = w.drew := by
  obtain ⟨v, hv, hown, _⟩ := h.row
  obtain ⟨A, c, rfl, _, _, _⟩ := row_cells hown
  have hcm := h.come
  have f := h.free
  have f1 := f 1
  have hlow := h.low
  have H := Lib.hid (h.drewN 1)
  have H0 := Lib.hid h0
  clear h hown h0
  go_enter Try.func34, Try.ntmps34
  go_wp2_with fail
  go_still_tail 13, (by kernel_rfl)
  go_wp2_with fail
  refine (poSettleNo n _ _ _ _ H0.out).mono ?_
  rintro e w1 ⟨rfl, rfl⟩
  go_wp2_with fail
  go_ret
  exact ⟨rfl, rfl⟩

end Go.Proofs.Ytliljfncbljfpaa
