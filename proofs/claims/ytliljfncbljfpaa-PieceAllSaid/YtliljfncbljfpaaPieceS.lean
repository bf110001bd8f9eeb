/- append as a step of a drawn region, whatever the source; the law's own roomy, spoil and same. -/
import Derived.Test.YtliljfncbljfpaaPieceK
namespace Go.Proofs.Ytliljfncbljfpaa
open Go.RowKit
set_option linter.unusedVariables false
set_option linter.unusedSimpArgs false

theorem run_append_nothing {P : Program} (w : World) (base : Nat) (t ty e : TypeId) (i : TypeInfo) (size : Nat) (ht : P.underlying t = some (.slice e)) (hi : P.info? e = some i)
    (v : Value) (n : Nat) (xs : List Value) (hown : w.ownsRow base e size v n xs) (c : Nat) : (Builtin.append_ #[t, t] ty #[v, .slice none 0 c]).run P w = .ok v w := by
  rcases hown.2 with ⟨rfl, rfl⟩ | ⟨g, cap, cur, rfl, _, _, hnc, _⟩
  · simp [Builtin.append_, run_underlying ht, sizeOf, typeInfo, hi, Builtin.lenOf, Builtin.firstCells]
  · simp [Builtin.append_, run_underlying ht, sizeOf, typeInfo, hi, Builtin.lenOf, Builtin.firstCells, hnc, storeCells]

theorem step_append_cells {P : Program} {w : World} {ops : Array Oper} {o : Oper} {a : Act} {K : Act → World → Prop} {Q : Exit → Act → World → Prop} {E : Prop} (hgd : o.guard = none) (s x : Operand) (t : TypeId)
    (ho : o.op = .call { callee := .builtin .append, args := #[s, x], argTypes := #[t, t] })
    (base : Nat) (e : TypeId) (i : TypeInfo) (z : Value) (size bytes : Nat) (ht : P.underlying t = some (.slice e)) (hi : P.info? e = some i) (hz : i.zero = some z)
    (hsize : i.size = size) (hby : i.bytes = bytes) (hzs : z.cells.size = size) (hsz : 0 < size)
    (v : Value) (n : Nat) (xs : List Value) (hs : a.eval s = v) (hown : w.ownsRow base e size v n xs)
    (B : Nat) (A : Option Addr) (m c : Nat) (news : List Value) (hx : a.eval x = .slice A m c) (hr : Cells w B A m c size news) (h1 : ∀ u ∈ news, u.oneCell' = true)
    (h63 : n + m ≤ maxLen) (hbytes : (n + m) * bytes ≤ 140737488355328) (hbase : base ≤ w.heap.size)
    (h : ∀ v' w', w'.ownsRow base e size v' (n + m) (xs ++ news) → Touch (fun k => v.ownBlock = some k) w w' → (v'.ownBlock = v.ownBlock ∨ v'.ownBlock = some w.heap.size) → K (a.put o.dst v') w') :
    if Region.wanted o (yielded ops a.tmps) = true then Oper.wp P o a w K Q else E := by
  have hw : Region.wanted o (yielded ops a.tmps) = true := by simp [Region.wanted, hgd]
  rw [if_pos hw]
  have key : ∃ v' w', (Builtin.append_ #[t, t] o.type #[v, .slice A m c]).run P w = .ok v' w' ∧ w'.ownsRow base e size v' (n + m) (xs ++ news) ∧ Touch (fun k => v.ownBlock = some k) w w' ∧ (v'.ownBlock = v.ownBlock ∨ v'.ownBlock = some w.heap.size) := by
    cases A with
    | none =>
      obtain ⟨rfl, rfl⟩ := hr.2.1 rfl
      have hn : news = [] := List.eq_nil_of_length_eq_zero (by simpa using hr.1)
      subst hn
      exact ⟨v, w, run_append_nothing w base t o.type e i size ht hi v n xs hown 0, by simpa using hown, Touch.refl _ _, .inl rfl⟩
    | some ad =>
      obtain ⟨v', w', hrun, h2, h3, _, h5⟩ := run_append_own_at (P := P) w base t o.type e i z size bytes ht hi hz hsize hby hzs hsz v n xs hown ad m c news hr.1 (fun j u hu => by
        obtain ⟨b, q, e, _, hc⟩ := hr.2.2 j u hu
        injection e with e
        subst e
        rw [add_none]; exact hc) h1 h63 hbytes hbase
      exact ⟨v', w', hrun, h2, Touch.of_grown h3, h5⟩
  obtain ⟨v', w', hrun, h2, h3, h5⟩ := key
  unfold Oper.wp
  simp [execOp, ho, resolve, invoke, builtin, hs, hx, hrun, Result.andThen]
  exact h v' w' h2 h3 h5

/-- the first ones of a row of the call's own -/
theorem own_prefix {w : World} {base e n k : Nat} {g cap : Nat} {xs : List Value} (h : w.ownsRow base e 1 (.slice (some ⟨g, 0, none⟩) n cap) n xs) (hk : k ≤ n) : w.ownsRow base e 1 (.slice (some ⟨g, 0, none⟩) k cap) k (xs.take k) := by
  rcases h.2 with ⟨hv, _⟩ | ⟨g', cap', cur, hv, hg, hh, hc, hm, hs, ht⟩
  · injection hv with h1; cases h1
  · injection hv with h1 h2 h3
    injection h1 with h1; injection h1 with h1; subst h1 h3
    have hl := h.1
    refine ⟨by rw [List.length_take]; omega, .inr ⟨g, cap, cur, rfl, hg, hh, by omega, hm, hs, ?_⟩⟩
    rw [← ht, List.take_take, Nat.mul_one, Nat.mul_one, Nat.min_eq_left hk]

set_option maxHeartbeats 1000000 in
set_option maxRecDepth 10000 in
theorem lawRoomy (A : Option Addr) (c : Nat) (xs : List Nat) (w : World) (hn : xs.length ≤ 100000) (hx : Cells w w.heap.size A xs.length c 1 (flatU xs)) :
    Calls Try.prog 25 #[.slice A xs.length c] w fun e w' => ∃ g cap, e = .returned (.slice (some ⟨g, 0, none⟩) (xs.length + 1) cap) ∧ w'.ownsRow w.heap.size 5 1 (.slice (some ⟨g, 0, none⟩) (xs.length + 1) cap) (xs.length + 1) (flatU (xs ++ [171])) ∧ Below w.heap.size w w' := by
  obtain ⟨i0, hi, hz0, hz1, hz2⟩ := info_parts Try.infoByte
  have HX := Lib.hid (cells_keep (w1 := w.alloc (.cells #[] 5)) (B' := w.heap.size) hx ((Below.refl _ _).alloc (Nat.le_refl _) _) (Nat.le_refl _))
  clear hx
  go_enter Try.func25, Try.ntmps25
  go_wp2_with (first
    | (at_builtin; refine wpList_append_row rfl (.tmp 3) (.tmp 4) 27 rfl w.heap.size 5 i0 (.int .u8 0) 1 1 Try.underlying27 hi hz0 hz1 hz2 rfl (by decide) _ 0 [] rfl (World.ownsRow_lit w #[] 0 (Nat.le_refl _) (by decide) rfl) w.heap.size A xs.length c (flatU xs) rfl HX.out (flatU_one _) (by unfold maxLen; omega) (by omega) (by (first | omega | (simp; done) | (simp; omega))) ?_; intro v1 w1 hown1 hb1; have HO1 := Lib.hid hown1; clear hown1; have hs1 := hb1.size; (try simp at hs1))
    | (at_builtin; refine wpList_append_row rfl (.tmp 5) (.tmp 6) 27 rfl w.heap.size 5 i0 (.int .u8 0) 1 1 Try.underlying27 hi hz0 hz1 hz2 rfl (by decide) _ (0 + xs.length) ([] ++ flatU xs) rfl (World.ownsRow.alloc HO1.out _) _ (some ⟨w1.heap.size, 0, none⟩) 1 1 [.int .u8 171] rfl (cells1 (Nat.lt_succ_self _) (c_new rfl rfl)) (by intro u hu; simp at hu; subst hu; rfl) (by unfold maxLen; omega) (by omega) (by (first | omega | (simp; done) | (simp; omega))) ?_; intro v2 w2 hown2 hb2; have HO2 := Lib.hid hown2; clear hown2; have hs2 := hb2.size; (try simp at hs2))
    | (at_builtin; refine wpList_append_row rfl (.tmp 7) (.tmp 8) 27 rfl w.heap.size 5 i0 (.int .u8 0) 1 1 Try.underlying27 hi hz0 hz1 hz2 rfl (by decide) _ (0 + xs.length + 1) ([] ++ flatU xs ++ [.int .u8 171]) rfl (World.ownsRow.alloc HO2.out _) _ (some ⟨w2.heap.size, 0, none⟩) 1 1 [.int .u8 171] rfl (cells1 (Nat.lt_succ_self _) (c_new rfl rfl)) (by intro u hu; simp at hu; subst hu; rfl) (by unfold maxLen; omega) (by omega) (by (first | omega | (simp; done) | (simp; omega))) ?_; intro v3 w3 hown3 hb3; obtain ⟨g, cap, rfl, hg1, hg2, hg3, hg4⟩ := own_form hown3 (by omega); have HO3 := Lib.hid hown3; clear hown3; have q1 : (xs.length : Int) + 1 ≤ (cap : Int) := by omega))
  go_ret
  refine ⟨g, cap, rfl, ?_, ?_⟩
  · have h := own_prefix HO3.out (k := xs.length + 1) (by omega)
    have e : (([] ++ flatU xs ++ [Value.int .u8 171]) ++ [Value.int .u8 171]).take (xs.length + 1) = flatU (xs ++ [171]) := by
      rw [List.nil_append, List.take_left' (by simp [flatU])]
      simp [flatU]
    rw [e] at h
    exact h
  · exact ((((((Below.refl _ _).alloc (Nat.le_refl _) _).trans hb1).alloc (by omega) _).trans hb2).alloc (by omega) _).trans hb3

theorem own_free {w : World} {base e size n g cap : Nat} {xs : List Value} (h : w.ownsRow base e size (.slice (some ⟨g, 0, none⟩) n cap) n xs) (j : Nat) : w.frozen? ⟨g, j, none⟩ = false := by
  rcases h.2 with ⟨hv, _⟩ | ⟨g', cap', cur, hv, hg, hh, _⟩
  · injection hv with h1; cases h1
  · injection hv with h1 h2 h3
    injection h1 with h1; injection h1 with h1; subst h1
    simp [World.frozen?, hh]
theorem own_has {w : World} {base e n g cap : Nat} {xs : List Value} (h : w.ownsRow base e 1 (.slice (some ⟨g, 0, none⟩) n cap) n xs) {j : Nat} (hj : j < n) : has w g j := by
  have hl : j < xs.length := by have := h.1; omega
  have := h.cells (g := g) rfl j xs[j] (List.getElem?_eq_getElem hl)
  rw [add_none, Nat.zero_add] at this
  exact ⟨_, this⟩

set_option maxHeartbeats 1000000 in
set_option maxRecDepth 10000 in
theorem lawSpoil (base n : Nat) (v : Value) (xs : List Value) (w : World) (hn : n ≤ 100000) (hown : w.ownsRow base 5 1 v n xs) (hbase : base ≤ w.heap.size) :
    Calls Try.prog 27 #[v] w fun e w' => e = .returned (.tuple #[]) ∧ Touch (fun k => v.ownBlock = some k) w w' := by
  obtain ⟨i0, hi, hz0, hz1, hz2⟩ := info_parts Try.infoByte
  have HO := Lib.hid hown
  clear hown
  go_enter Try.func27, Try.ntmps27
  go_wp2_with (at_builtin; refine wpList_append_touch rfl (.tmp 4) (.tmp 5) 27 rfl base 5 i0 (.int .u8 0) 1 1 Try.underlying27 hi hz0 hz1 hz2 rfl (by decide) v n xs rfl (World.ownsRow.alloc HO.out _) _ (some ⟨w.heap.size, 0, none⟩) 1 1 [.int .u8 99] rfl (cells1 (Nat.lt_succ_self _) (c_new rfl rfl)) (by intro u hu; simp at hu; subst hu; rfl) (by unfold maxLen; omega) (by omega) (by (first | omega | (simp; done) | (simp; omega))) ?_; intro v5 w5 hown5 ht5 hb5; obtain ⟨g, cap, rfl, hg1, hg2, hg3, hg4⟩ := own_form hown5 (by omega); have HO5 := Lib.hid hown5; clear hown5; have HT := Lib.hid (Touch.trans ((Touch.refl (fun k => v.ownBlock = some k) w).alloc _) ht5 (fun _ _ h => h)); clear ht5; have HB5 := Lib.hid hb5; clear hb5)
  have HD : Hid (g < w.heap.size → v.ownBlock = some g) := Lib.hid (by
    intro hlt
    rcases HB5.out with e | e
    · rw [← e]; rfl
    · simp [Value.ownBlock] at e; omega)
  go_loopw [3] (fun i wr => ∃ k : Nat, k ≤ n + 1 ∧ i = .int .i64 k ∧ Hid (∀ j, j < n + 1 → has wr g j) ∧ Hid (∀ j, wr.frozen? ⟨g, j, none⟩ = false) ∧ Hid (Touch (fun k => v.ownBlock = some k) w wr)) (fun i _ => n + 1 - (intOf i).toNat)
  case atStart => exact ⟨0, by omega, rfl, Lib.hid (fun j hj => own_has HO5.out hj), Lib.hid (own_free HO5.out), HT⟩
  case round =>
    obtain ⟨k, hk, rfl, HC, HF, HW⟩ := hrel
    by_cases hlt : k < n + 1
    · obtain ⟨u, hu⟩ := HC.out k hlt
      have hf := HF.out k
      have hi1 : (k : Int) < (n : Int) + 1 := by omega
      go_wp2_with fail
      go_roundw
      case rel => exact ⟨k + 1, by omega, by go_num, Lib.hid (fun j hj => h_set (HC.out j hj)), Lib.hid (fun j => f_set (HF.out j)), Lib.hid (HW.out.set (fun hlt => HD.out hlt))⟩
      case measure => simp [intOf]; omega
    · have hi1 : ¬ (k : Int) < (n : Int) + 1 := by omega
      go_wp2_with fail
      refine bodyPost_end (v := .tuple #[]) (by simp [results, Try.results27, go_sem]) rfl ⟨rfl, HW.out⟩

set_option maxHeartbeats 1000000 in
set_option maxRecDepth 10000 in
theorem lawSame (A A' : Option Addr) (c c' B B' : Nat) (xs : List Nat) (w : World) (hn : xs.length ≤ 100000) (hx : Cells w B A xs.length c 1 (flatU xs)) (hx' : Cells w B' A' xs.length c' 1 (flatU xs)) :
    Calls Try.prog 30 #[.slice A xs.length c, .slice A' xs.length c'] w fun e w' => e = .returned (.bool true) ∧ Touch (fun _ => False) w w' := by
  have HX := Lib.hid hx
  have HX' := Lib.hid hx'
  clear hx hx'
  go_enter Try.func30, Try.ntmps30
  go_wp2_with fail
  go_loopw [5] (fun i wr => ∃ k q : Nat, k ≤ xs.length ∧ i = .int .i64 k ∧ Hid (wr = w.drewN q)) (fun i _ => xs.length - (intOf i).toNat)
  case atStart => exact ⟨0, 0, by omega, rfl, Lib.hid rfl⟩
  case round =>
    obtain ⟨k, q, hk, rfl, HW⟩ := hrel
    by_cases hlt : k < xs.length
    · have hu : (flatU xs)[k]? = some (.int .u8 (xs[k] : Nat)) := by simp [flatU, hlt]
      obtain ⟨b, o, rfl, _, hc⟩ := HX.out.2.2 k _ hu
      obtain ⟨b', o', rfl, _, hc'⟩ := HX'.out.2.2 k _ hu
      have c1 : wr.cell? ⟨b, o + k, none⟩ = some (.int .u8 (xs[k] : Nat)) := by rw [HW.out]; exact hc
      have c2 : wr.cell? ⟨b', o' + k, none⟩ = some (.int .u8 (xs[k] : Nat)) := by rw [HW.out]; exact hc'
      clear hc hc' hu
      have i1 : (k : Int) < (xs.length : Int) := by omega
      go_wp2_with fail
      go_quiet (fail)
      go_wp2_with fail
      go_roundw
      case rel => exact ⟨k + 1, q + nq, by omega, by go_num, Lib.hid (by rw [HW.out, World.drewN_drewN])⟩
      case measure => simp [intOf]; omega
    · have i1 : ¬ (k : Int) < (xs.length : Int) := by omega
      go_wp2_with fail
      go_ret
      exact ⟨rfl, by rw [HW.out]; exact (Touch.refl _ _).drewN q⟩

end Go.Proofs.Ytliljfncbljfpaa
