/- container/heap: Push onto a side that is nil. -/
import Derived.Test.YtgppgbiebfdnlaaBookP
namespace Go.Proofs.Ytgppgbiebfdnlaa
open Go.RowKit
set_option linter.unusedVariables false
set_option linter.unusedSimpArgs false

set_option maxRecDepth 10000 in
theorem heapUp (v : Value) (w : World) :
    Calls Try.prog 87 #[.iface 97 v, .int .i64 0] w fun e w' => e = .returned (.tuple #[]) ∧ w' = w := by
  go_enter Try.func87, Try.ntmps87
  go_wp2_with fail
  refine wp_loop_rounds 1 ?_; rw [rounds_succ]
  go_wp2_with fail
  exact bodyPost_end (v := .tuple #[]) (by simp [results, Try.results87, go_sem]) rfl ⟨rfl, rfl⟩

theorem method_push (a : Addr) (w : World) : (method 385 97 (.pointer (some a)) "Push").run Try.prog w = .ok (213, .pointer (some a)) w := by kernel_rfl
theorem method_len0 (a : Addr) (w : World) : (method 385 97 (.pointer (some a)) "Len").run Try.prog w = (loadVar 93 a >>= fun v => pure ((209 : FuncId), v)).run Try.prog w := by kernel_rfl
theorem method_len (b k : Nat) (w : World) (r : Option Addr) (n c : Nat) (h : w.cell? ⟨b, k, none⟩ = some (.slice r n c)) : (method 385 97 (.pointer (some ⟨b, k, none⟩)) "Len").run Try.prog w = .ok (209, .slice r n c) w := by
  rw [method_len0]
  go_simp
theorem sideLen (r : Option Addr) (n c : Nat) (w : World) : Calls Try.prog 209 #[.slice r n c] w fun e w' => e = .returned (.int .i64 n) ∧ w' = w := by
  go_enter Try.func209, Try.ntmps209
  go_wp2_with fail
  go_ret
  exact ⟨rfl, rfl⟩

set_option maxRecDepth 10000 in
theorem heapPush (b k : Nat) (id item ct pr : Int) (who : ByteArray) (buy : Bool) (w : World) (hc : w.cell? ⟨b, k, none⟩ = some (.slice none 0 0)) (hf : w.frozen? ⟨b, k, none⟩ = false) (hl : b < w.heap.size) :
    Calls Try.prog 47 #[.iface 97 (.pointer (some ⟨b, k, none⟩)), .iface 23 (.agg #[.int .i64 id, .string who, .bool buy, .int .i64 item, .int .i64 ct, .int .i64 pr])] w fun e w' => e = .returned (.tuple #[]) ∧ ∃ g cap, w.heap.size ≤ g ∧ w'.ownsRow w.heap.size 23 6 (.slice (some ⟨g, 0, none⟩) 1 cap) 1 [.int .i64 id, .string who, .bool buy, .int .i64 item, .int .i64 ct, .int .i64 pr] ∧ w'.cell? ⟨b, k, none⟩ = some (.slice (some ⟨g, 0, none⟩) 1 cap) ∧ (∀ o, o ≠ k → w'.cell? ⟨b, o, none⟩ = w.cell? ⟨b, o, none⟩) ∧ Touch (fun x => x = b) w w' ∧ ∀ o, w'.frozen? ⟨b, o, none⟩ = w.frozen? ⟨b, o, none⟩ := by
  have hm := method_push
  go_enter Try.func47, Try.ntmps47
  go_wp2_with (first | (go_at_call 213; refine (sidePush b k id item ct pr who buy _ hc hf hl).mono ?_; rintro e w1 ⟨rfl, g, cap, hg, hown, hc1, hoth, ht⟩; have hml := method_len b k w1 _ _ _ hc1) | (go_at_call 209; refine (sideLen _ _ _ _).mono ?_; rintro e w2 ⟨rfl, rfl⟩))
  refine (heapUp _ _).mono ?_
  rintro e w3 ⟨rfl, rfl⟩
  go_wp2_with fail
  exact bodyPost_end (v := .tuple #[]) (by simp [results, Try.results47, go_sem]) rfl ⟨rfl, g, cap, hg, hown, hc1, hoth, ht⟩
end Go.Proofs.Ytgppgbiebfdnlaa
