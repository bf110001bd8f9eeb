/- plan: a ranking's Push. -/
import Derived.Test.YtepjehcmiofehaaGreatPq28
namespace Go.Proofs.YtepjehcmiofehaaGreat
open Go.RowKit
set_option linter.unusedVariables false
set_option linter.unusedSimpArgs false
theorem Tryz.infoRank : (Tryz.prog.info? 84).map (fun i => (i.zero, i.size, i.bytes)) = some (some (.agg #[.int .i64 0, .int .i64 0]), 2, 16) := by kernel_rfl
theorem tassertR (v : Value) (w : World) : (Instr.typeAssert (.iface 84 v) 20 84 true).run Tryz.prog w = .ok (.tuple #[v, .bool true]) w := by
  simp [Instr.typeAssert, run_underlying Tryz.underlying84]
set_option maxHeartbeats 4000000 in
set_option maxRecDepth 10000 in
theorem rkPush (B b : Nat) (s : Int) (v : Value) (rs : List Rk) (r : Rk) (w : World) (h : RkH w B b s v rs) (hr : RkOk r) (hl : rs.length ≤ 1000) :
    Calls Tryz.prog 117 #[.pointer (some ⟨b, 0, none⟩), .iface 84 (.agg #[.int .i64 r.h, .int .i64 r.l])] w fun e w' => e = .returned (.tuple #[]) ∧ ∃ v', RkH w' B b s v' (rs ++ [r]) ∧ Touch (fun x => x = b ∨ v.ownBlock = some x) w w' ∧ (v'.ownBlock = v.ownBlock ∨ ∃ g, v'.ownBlock = some g ∧ w.heap.size ≤ g) := by
  obtain ⟨i0, hi, hz0, hz1, hz2⟩ := info_parts Tryz.infoRank
  have H := Lib.hid h
  have HR := Lib.hid hr
  have ta := tassertR (.agg #[.int .i64 r.h, .int .i64 r.l])
  clear h hr
  go_enter Tryz.func117, Tryz.ntmps117
  go_upto_region 2 with fail
  have hV : Below w.heap.size w (w.alloc (.cells #[.int .i64 r.h, .int .i64 r.l] 84)) := (Below.refl _ _).alloc (Nat.le_refl _) _
  have hN : Whl (w.alloc (.cells #[.int .i64 r.h, .int .i64 r.l] 84)) w.heap.size 84 #[.int .i64 r.h, .int .i64 r.l] := Whl.new rfl
  generalize (w.alloc (.cells #[.int .i64 r.h, .int .i64 r.l] 84)) = V at *
  have H1 := Lib.hid (H.out.below hV)
  have HV := Lib.hid hV
  have hs1 := hV.size
  have k0 := H1.out.cell.1
  obtain ⟨n, hn⟩ : ∃ n, n = rs.length := ⟨_, rfl⟩
  have HO := Lib.hid H1.out.own
  rw [← hn] at HO
  have HW := Lib.hid H1.out.blk
  have d0 := hN.cell 0
  have d1 := hN.cell 1
  simp only [List.getElem?_toArray, List.getElem?_cons_succ, List.getElem?_cons_zero] at d0 d1
  have hfarv := H1.out.far
  have hbl := H1.out.blk.low
  have hbase : B ≤ V.heap.size := by have := H1.out.low; omega
  have hn10 : n ≤ 1000 := by omega
  clear hV hN
  refine wp_region_held_drew (S := (fun _ => True)) (by kernel_rfl) trivial (fun hHeld => ?_)
  refine wpAnyH_take (i := 0) (oi := ⟨some 12, _, _, _, _, _⟩) (v := ?v0A_1) rfl (by kernel_rfl) (by kernel_rfl) (by kernel_rfl) (fun _ _ _ h => h) (Or.inl ⟨by rfl, ?y0A_1⟩) (by assumption) ?r0A_1
  case y0A_1 => (intro w hSw; (try dsimp only at hSw); (try go_split_ands); go_simp); (try with_reducible rfl)
  case r0A_1 =>
  (try simp only [Act.put, List.setIfInBounds_toArray, List.set_cons_zero, List.set_cons_succ])
  refine wpAnyH_take (i := 1) (oi := ⟨some 13, _, _, _, _, _⟩) (v := ?v1A_4) rfl (by kernel_rfl) (by kernel_rfl) (by kernel_rfl) (fun _ _ _ h => h) (Or.inl ⟨by rfl, ?y1A_4⟩) (by assumption) ?r1A_4
  case y1A_4 => (intro w hSw; (try dsimp only at hSw); (try go_split_ands); go_simp); (try with_reducible rfl)
  case r1A_4 =>
  (try simp only [Act.put, List.setIfInBounds_toArray, List.set_cons_zero, List.set_cons_succ])
  refine wpAnyH_take (i := 2) (oi := ⟨some 14, _, _, _, _, _⟩) (v := ?v2A_7) rfl (by kernel_rfl) (by kernel_rfl) (by kernel_rfl) (fun _ _ _ h => h) (Or.inl ⟨by rfl, ?y2A_7⟩) (by assumption) ?r2A_7
  case y2A_7 => (intro w hSw; (try dsimp only at hSw); (try go_split_ands); go_simp); (try with_reducible rfl)
  case r2A_7 =>
  (try simp only [Act.put, List.setIfInBounds_toArray, List.set_cons_zero, List.set_cons_succ])
  refine wpAnyH_take (i := 3) (oi := ⟨some 15, _, _, _, _, _⟩) (v := ?v3A_10) rfl (by kernel_rfl) (by kernel_rfl) (by kernel_rfl) (fun _ _ _ h => h) (Or.inl ⟨by rfl, ?y3A_10⟩) (by assumption) ?r3A_10
  case y3A_10 => (intro w hSw; (try dsimp only at hSw); (try go_split_ands); go_simp); (try with_reducible rfl)
  case r3A_10 =>
  (try simp only [Act.put, List.setIfInBounds_toArray, List.set_cons_zero, List.set_cons_succ])
  refine wpAnyH_ready (rs := [4, 5]) (by kernel_rfl) (by simp) ?_
  refine AllReadyH.cons (o := ⟨some 16, _, _, _, _, _⟩) rfl (fun K hK => ?_) (AllReadyH.cons (o := ⟨some 17, _, _, _, _, _⟩) rfl (fun K hK => ?_) AllReadyH.nil)
  · have k9 : V.drew.cell? ⟨b, 0, none⟩ = some v := k0
    go_simp
    refine hK.out _ _ trivial (fun hHeld => ?_)
    clear hK K
    (try simp only [Act.put, List.setIfInBounds_toArray, List.set_cons_zero, List.set_cons_succ])
    refine wpAnyH_ready (rs := [5]) (by kernel_rfl) (by simp) ?_
    refine AllReadyH.cons (o := ⟨some 17, _, _, _, _, _⟩) rfl (fun K hK => ?_) AllReadyH.nil
    have e0 : V.drew.cell? ⟨w.heap.size, 0, none⟩ = _ := d0
    have e1 : V.drew.cell? ⟨w.heap.size, 1, none⟩ = _ := d1
    go_simp
    refine hK.out _ _ trivial (fun hHeld => ?_)
    clear hK K
    (try simp only [Act.put, List.setIfInBounds_toArray, List.set_cons_zero, List.set_cons_succ])
    refine wpAnyH_ready (rs := [6]) (by kernel_rfl) (by simp) ?_
    refine AllReadyH.cons (o := ⟨some 18, _, _, _, _, _⟩) rfl (fun K hK => ?_) AllReadyH.nil
    go_simp
    have hb3 : Below V.heap.size V (V.drew.alloc (.cells #[.int .i64 r.h, .int .i64 r.l] 84)) := (Below.refl _ _).drew.alloc (Nat.le_refl _) _
    have hbase6 : B ≤ (V.drew.alloc (.cells #[.int .i64 r.h, .int .i64 r.l] 84)).heap.size := by simp; omega
    have ho3 : (V.drew.alloc (.cells #[.int .i64 r.h, .int .i64 r.l] 84)).ownsRow B 84 2 v n (flatR rs) := (Touch.of_below hb3).own HO.out (fun g hg hd => by have := (HO.out.lt g hg).2; omega)
    refine hK.out _ _ trivial (fun hHeld => ?_)
    clear hK K
    (try simp only [Act.put, List.setIfInBounds_toArray, List.set_cons_zero, List.set_cons_succ])
    refine wpAnyH_ready (rs := [7]) (by kernel_rfl) (by simp) ?_
    refine AllReadyH.cons (o := ⟨some 19, _, _, _, _, _⟩) rfl (fun K hK => ?_) AllReadyH.nil
    refine step_append_cells rfl (.tmp 16) (.tmp 18) 110 rfl B 84 i0 (.agg #[.int .i64 0, .int .i64 0]) 2 16 Tryz.underlying110 hi hz0 hz1 hz2 rfl (by decide) (v) n (flatR rs) rfl ho3 _ _ 1 1 [.int .i64 r.h, .int .i64 r.l] rfl (cells_new (w := V.drew) (e := 84) rfl rfl) (rkV_one r) (by unfold maxLen; omega) (by omega) hbase6 ?_
    intro v5 w5 hown5 ht5 hb5
    have hT5 : Touch (fun x => (v).ownBlock = some x) V w5 := ((Touch.refl _ _).trans (Touch.of_below hb3) (fun x hx hd => absurd hd (by omega))).trans ht5 (fun x _ hx => hx)
    have hs5 := hT5.size
    have hW5 : Whl w5 (b) 112 #[v, .int .i64 s] := (hT5.block (b) HW.out.low (fun e => hfarv e)).trans HW.out
    have hb5' : v5.ownBlock = (v).ownBlock ∨ v5.ownBlock = some (V.heap.size + 1) := by simpa using hb5
    clear hb5
    obtain ⟨g5, c5, rfl, _, _, _, _⟩ := own_form hown5 (Nat.succ_pos _)
    have HO5 := Lib.hid hown5
    have HT5 := Lib.hid hT5
    have HW5 := Lib.hid hW5
    
    clear hown5 ht5 hT5 hW5
    refine hK.out _ _ trivial (fun hHeld => ?_)
    clear hK K
    (try simp only [Act.put, List.setIfInBounds_toArray, List.set_cons_zero, List.set_cons_succ])
    refine wpAnyH_take (i := 8) (oi := ⟨some 20, _, _, _, _, _⟩) (v := ?v8A_55) rfl (by kernel_rfl) (by kernel_rfl) (by kernel_rfl) (fun _ _ _ h => h) (Or.inl ⟨by rfl, ?y8A_55⟩) (by assumption) ?r8A_55
    case y8A_55 => (intro w hSw; (try dsimp only at hSw); (try go_split_ands); go_simp); (try with_reducible rfl)
    case r8A_55 =>
    (try simp only [Act.put, List.setIfInBounds_toArray, List.set_cons_zero, List.set_cons_succ])
    refine wpAnyH_take (i := 9) (oi := ⟨some 21, _, _, _, _, _⟩) (v := ?v9A_58) rfl (by kernel_rfl) (by kernel_rfl) (by kernel_rfl) (fun _ _ _ h => h) (Or.inl ⟨by rfl, ?y9A_58⟩) (by assumption) ?r9A_58
    case y9A_58 => (intro w hSw; (try dsimp only at hSw); (try go_split_ands); go_simp); (try with_reducible rfl)
    case r9A_58 =>
    (try simp only [Act.put, List.setIfInBounds_toArray, List.set_cons_zero, List.set_cons_succ])
    refine wpAnyH_ready (rs := [10]) (by kernel_rfl) (by simp) ?_
    refine AllReadyH.cons (o := ⟨none, _, _, _, _, _⟩) rfl (fun K hK => ?_) AllReadyH.nil
    have k7 : w5.cell? ⟨b, 0, none⟩ = some (v) := (HW5.out.cell 0).trans rfl
    have f7 := HW5.out.free 0
    go_simp
    refine hK.out _ _ trivial (fun hHeld => ?_)
    clear hK K
    (try simp only [Act.put, List.setIfInBounds_toArray, List.set_cons_zero, List.set_cons_succ])
    refine wpAnyH_done (by kernel_rfl) ?_ _
    go_wp2_with fail
    subst hn
    have hvb : (Value.slice (some ⟨g5, 0, none⟩) (rs.length + 1) c5).ownBlock ≠ some b := by rcases hb5' with e | e <;> rw [e]; exact hfarv; intro e2; injection e2 with e2; omega
    refine bodyPost_end (v := .tuple #[]) (by simp [results, Tryz.results117, go_sem]) rfl ⟨rfl, _, ⟨Whl.set HW5.out 0 _, ?_, hvb, ?_, H.out.sg, H.out.low⟩, ?_, hb5'.imp_right fun e => ⟨_, e, by omega⟩⟩
    · rw [List.length_append, List.length_singleton, flatR_app]
      exact own_set_ne HO5.out (fun q hq e => hvb (by rw [hq]; exact congrArg some e))
    · intro y hy
      rcases List.mem_append.1 hy with hy | hy
      · exact H.out.ok y hy
      · rw [List.mem_singleton.1 hy]; exact HR.out
    · exact (((Touch.refl _ _).trans (Touch.of_below HV.out) (fun x hx hd => absurd hd (by omega))).trans (HT5.out.mono (fun x hx => .inr hx)) (fun x _ hx => hx)).set (fun _ => .inl rfl)
  · have e0 : V.drew.cell? ⟨w.heap.size, 0, none⟩ = _ := d0
    have e1 : V.drew.cell? ⟨w.heap.size, 1, none⟩ = _ := d1
    go_simp
    refine hK.out _ _ trivial (fun hHeld => ?_)
    clear hK K
    (try simp only [Act.put, List.setIfInBounds_toArray, List.set_cons_zero, List.set_cons_succ])
    refine wpAnyH_ready (rs := [4, 6]) (by kernel_rfl) (by simp) ?_
    refine AllReadyH.cons (o := ⟨some 16, _, _, _, _, _⟩) rfl (fun K hK => ?_) (AllReadyH.cons (o := ⟨some 18, _, _, _, _, _⟩) rfl (fun K hK => ?_) AllReadyH.nil)
    · have k9 : V.drew.cell? ⟨b, 0, none⟩ = some v := k0
      go_simp
      refine hK.out _ _ trivial (fun hHeld => ?_)
      clear hK K
      (try simp only [Act.put, List.setIfInBounds_toArray, List.set_cons_zero, List.set_cons_succ])
      refine wpAnyH_ready (rs := [6]) (by kernel_rfl) (by simp) ?_
      refine AllReadyH.cons (o := ⟨some 18, _, _, _, _, _⟩) rfl (fun K hK => ?_) AllReadyH.nil
      go_simp
      have hb3 : Below V.heap.size V (V.drew.alloc (.cells #[.int .i64 r.h, .int .i64 r.l] 84)) := (Below.refl _ _).drew.alloc (Nat.le_refl _) _
      have hbase6 : B ≤ (V.drew.alloc (.cells #[.int .i64 r.h, .int .i64 r.l] 84)).heap.size := by simp; omega
      have ho3 : (V.drew.alloc (.cells #[.int .i64 r.h, .int .i64 r.l] 84)).ownsRow B 84 2 v n (flatR rs) := (Touch.of_below hb3).own HO.out (fun g hg hd => by have := (HO.out.lt g hg).2; omega)
      refine hK.out _ _ trivial (fun hHeld => ?_)
      clear hK K
      (try simp only [Act.put, List.setIfInBounds_toArray, List.set_cons_zero, List.set_cons_succ])
      refine wpAnyH_ready (rs := [7]) (by kernel_rfl) (by simp) ?_
      refine AllReadyH.cons (o := ⟨some 19, _, _, _, _, _⟩) rfl (fun K hK => ?_) AllReadyH.nil
      refine step_append_cells rfl (.tmp 16) (.tmp 18) 110 rfl B 84 i0 (.agg #[.int .i64 0, .int .i64 0]) 2 16 Tryz.underlying110 hi hz0 hz1 hz2 rfl (by decide) (v) n (flatR rs) rfl ho3 _ _ 1 1 [.int .i64 r.h, .int .i64 r.l] rfl (cells_new (w := V.drew) (e := 84) rfl rfl) (rkV_one r) (by unfold maxLen; omega) (by omega) hbase6 ?_
      intro v5 w5 hown5 ht5 hb5
      have hT5 : Touch (fun x => (v).ownBlock = some x) V w5 := ((Touch.refl _ _).trans (Touch.of_below hb3) (fun x hx hd => absurd hd (by omega))).trans ht5 (fun x _ hx => hx)
      have hs5 := hT5.size
      have hW5 : Whl w5 (b) 112 #[v, .int .i64 s] := (hT5.block (b) HW.out.low (fun e => hfarv e)).trans HW.out
      have hb5' : v5.ownBlock = (v).ownBlock ∨ v5.ownBlock = some (V.heap.size + 1) := by simpa using hb5
      clear hb5
      obtain ⟨g5, c5, rfl, _, _, _, _⟩ := own_form hown5 (Nat.succ_pos _)
      have HO5 := Lib.hid hown5
      have HT5 := Lib.hid hT5
      have HW5 := Lib.hid hW5
      
      clear hown5 ht5 hT5 hW5
      refine hK.out _ _ trivial (fun hHeld => ?_)
      clear hK K
      (try simp only [Act.put, List.setIfInBounds_toArray, List.set_cons_zero, List.set_cons_succ])
      refine wpAnyH_take (i := 8) (oi := ⟨some 20, _, _, _, _, _⟩) (v := ?v8A_121) rfl (by kernel_rfl) (by kernel_rfl) (by kernel_rfl) (fun _ _ _ h => h) (Or.inl ⟨by rfl, ?y8A_121⟩) (by assumption) ?r8A_121
      case y8A_121 => (intro w hSw; (try dsimp only at hSw); (try go_split_ands); go_simp); (try with_reducible rfl)
      case r8A_121 =>
      (try simp only [Act.put, List.setIfInBounds_toArray, List.set_cons_zero, List.set_cons_succ])
      refine wpAnyH_take (i := 9) (oi := ⟨some 21, _, _, _, _, _⟩) (v := ?v9A_124) rfl (by kernel_rfl) (by kernel_rfl) (by kernel_rfl) (fun _ _ _ h => h) (Or.inl ⟨by rfl, ?y9A_124⟩) (by assumption) ?r9A_124
      case y9A_124 => (intro w hSw; (try dsimp only at hSw); (try go_split_ands); go_simp); (try with_reducible rfl)
      case r9A_124 =>
      (try simp only [Act.put, List.setIfInBounds_toArray, List.set_cons_zero, List.set_cons_succ])
      refine wpAnyH_ready (rs := [10]) (by kernel_rfl) (by simp) ?_
      refine AllReadyH.cons (o := ⟨none, _, _, _, _, _⟩) rfl (fun K hK => ?_) AllReadyH.nil
      have k7 : w5.cell? ⟨b, 0, none⟩ = some (v) := (HW5.out.cell 0).trans rfl
      have f7 := HW5.out.free 0
      go_simp
      refine hK.out _ _ trivial (fun hHeld => ?_)
      clear hK K
      (try simp only [Act.put, List.setIfInBounds_toArray, List.set_cons_zero, List.set_cons_succ])
      refine wpAnyH_done (by kernel_rfl) ?_ _
      go_wp2_with fail
      subst hn
      have hvb : (Value.slice (some ⟨g5, 0, none⟩) (rs.length + 1) c5).ownBlock ≠ some b := by rcases hb5' with e | e <;> rw [e]; exact hfarv; intro e2; injection e2 with e2; omega
      refine bodyPost_end (v := .tuple #[]) (by simp [results, Tryz.results117, go_sem]) rfl ⟨rfl, _, ⟨Whl.set HW5.out 0 _, ?_, hvb, ?_, H.out.sg, H.out.low⟩, ?_, hb5'.imp_right fun e => ⟨_, e, by omega⟩⟩
      · rw [List.length_append, List.length_singleton, flatR_app]
        exact own_set_ne HO5.out (fun q hq e => hvb (by rw [hq]; exact congrArg some e))
      · intro y hy
        rcases List.mem_append.1 hy with hy | hy
        · exact H.out.ok y hy
        · rw [List.mem_singleton.1 hy]; exact HR.out
      · exact (((Touch.refl _ _).trans (Touch.of_below HV.out) (fun x hx hd => absurd hd (by omega))).trans (HT5.out.mono (fun x hx => .inr hx)) (fun x _ hx => hx)).set (fun _ => .inl rfl)
    · go_simp
      have hb3 : Below V.heap.size V (V.drew.alloc (.cells #[.int .i64 r.h, .int .i64 r.l] 84)) := (Below.refl _ _).drew.alloc (Nat.le_refl _) _
      have hbase6 : B ≤ (V.drew.alloc (.cells #[.int .i64 r.h, .int .i64 r.l] 84)).heap.size := by simp; omega
      have ho3 : (V.drew.alloc (.cells #[.int .i64 r.h, .int .i64 r.l] 84)).ownsRow B 84 2 v n (flatR rs) := (Touch.of_below hb3).own HO.out (fun g hg hd => by have := (HO.out.lt g hg).2; omega)
      refine hK.out _ _ trivial (fun hHeld => ?_)
      clear hK K
      (try simp only [Act.put, List.setIfInBounds_toArray, List.set_cons_zero, List.set_cons_succ])
      refine wpAnyH_ready (rs := [4]) (by kernel_rfl) (by simp) ?_
      refine AllReadyH.cons (o := ⟨some 16, _, _, _, _, _⟩) rfl (fun K hK => ?_) AllReadyH.nil
      have k9 := bkeep hb3 k0 (by have := HW.out.low; omega)
      have k10 : V.cell? ⟨b, 0, none⟩ = some v := k0
      go_simp
      refine hK.out _ _ trivial (fun hHeld => ?_)
      clear hK K
      (try simp only [Act.put, List.setIfInBounds_toArray, List.set_cons_zero, List.set_cons_succ])
      refine wpAnyH_ready (rs := [7]) (by kernel_rfl) (by simp) ?_
      refine AllReadyH.cons (o := ⟨some 19, _, _, _, _, _⟩) rfl (fun K hK => ?_) AllReadyH.nil
      refine step_append_cells rfl (.tmp 16) (.tmp 18) 110 rfl B 84 i0 (.agg #[.int .i64 0, .int .i64 0]) 2 16 Tryz.underlying110 hi hz0 hz1 hz2 rfl (by decide) (v) n (flatR rs) rfl ho3 _ _ 1 1 [.int .i64 r.h, .int .i64 r.l] rfl (cells_new (w := V.drew) (e := 84) rfl rfl) (rkV_one r) (by unfold maxLen; omega) (by omega) hbase6 ?_
      intro v5 w5 hown5 ht5 hb5
      have hT5 : Touch (fun x => (v).ownBlock = some x) V w5 := ((Touch.refl _ _).trans (Touch.of_below hb3) (fun x hx hd => absurd hd (by omega))).trans ht5 (fun x _ hx => hx)
      have hs5 := hT5.size
      have hW5 : Whl w5 (b) 112 #[v, .int .i64 s] := (hT5.block (b) HW.out.low (fun e => hfarv e)).trans HW.out
      have hb5' : v5.ownBlock = (v).ownBlock ∨ v5.ownBlock = some (V.heap.size + 1) := by simpa using hb5
      clear hb5
      obtain ⟨g5, c5, rfl, _, _, _, _⟩ := own_form hown5 (Nat.succ_pos _)
      have HO5 := Lib.hid hown5
      have HT5 := Lib.hid hT5
      have HW5 := Lib.hid hW5
      
      clear hown5 ht5 hT5 hW5
      refine hK.out _ _ trivial (fun hHeld => ?_)
      clear hK K
      (try simp only [Act.put, List.setIfInBounds_toArray, List.set_cons_zero, List.set_cons_succ])
      refine wpAnyH_take (i := 8) (oi := ⟨some 20, _, _, _, _, _⟩) (v := ?v8A_180) rfl (by kernel_rfl) (by kernel_rfl) (by kernel_rfl) (fun _ _ _ h => h) (Or.inl ⟨by rfl, ?y8A_180⟩) (by assumption) ?r8A_180
      case y8A_180 => (intro w hSw; (try dsimp only at hSw); (try go_split_ands); go_simp); (try with_reducible rfl)
      case r8A_180 =>
      (try simp only [Act.put, List.setIfInBounds_toArray, List.set_cons_zero, List.set_cons_succ])
      refine wpAnyH_take (i := 9) (oi := ⟨some 21, _, _, _, _, _⟩) (v := ?v9A_183) rfl (by kernel_rfl) (by kernel_rfl) (by kernel_rfl) (fun _ _ _ h => h) (Or.inl ⟨by rfl, ?y9A_183⟩) (by assumption) ?r9A_183
      case y9A_183 => (intro w hSw; (try dsimp only at hSw); (try go_split_ands); go_simp); (try with_reducible rfl)
      case r9A_183 =>
      (try simp only [Act.put, List.setIfInBounds_toArray, List.set_cons_zero, List.set_cons_succ])
      refine wpAnyH_ready (rs := [10]) (by kernel_rfl) (by simp) ?_
      refine AllReadyH.cons (o := ⟨none, _, _, _, _, _⟩) rfl (fun K hK => ?_) AllReadyH.nil
      have k7 : w5.cell? ⟨b, 0, none⟩ = some (v) := (HW5.out.cell 0).trans rfl
      have f7 := HW5.out.free 0
      go_simp
      refine hK.out _ _ trivial (fun hHeld => ?_)
      clear hK K
      (try simp only [Act.put, List.setIfInBounds_toArray, List.set_cons_zero, List.set_cons_succ])
      refine wpAnyH_done (by kernel_rfl) ?_ _
      go_wp2_with fail
      subst hn
      have hvb : (Value.slice (some ⟨g5, 0, none⟩) (rs.length + 1) c5).ownBlock ≠ some b := by rcases hb5' with e | e <;> rw [e]; exact hfarv; intro e2; injection e2 with e2; omega
      refine bodyPost_end (v := .tuple #[]) (by simp [results, Tryz.results117, go_sem]) rfl ⟨rfl, _, ⟨Whl.set HW5.out 0 _, ?_, hvb, ?_, H.out.sg, H.out.low⟩, ?_, hb5'.imp_right fun e => ⟨_, e, by omega⟩⟩
      · rw [List.length_append, List.length_singleton, flatR_app]
        exact own_set_ne HO5.out (fun q hq e => hvb (by rw [hq]; exact congrArg some e))
      · intro y hy
        rcases List.mem_append.1 hy with hy | hy
        · exact H.out.ok y hy
        · rw [List.mem_singleton.1 hy]; exact HR.out
      · exact (((Touch.refl _ _).trans (Touch.of_below HV.out) (fun x hx hd => absurd hd (by omega))).trans (HT5.out.mono (fun x hx => .inr hx)) (fun x _ hx => hx)).set (fun _ => .inl rfl)
end Go.Proofs.YtepjehcmiofehaaGreat
