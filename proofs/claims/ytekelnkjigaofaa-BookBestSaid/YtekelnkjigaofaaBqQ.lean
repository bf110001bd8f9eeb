/- BookGone: the walk of the statement. -/
import Derived.Test.YtekelnkjigaofaaBqP
import Derived.Test.YtekelnkjigaofaaOpenInts
import Derived.Test.YtekelnkjigaofaaOpenOrderW
import Derived.Deep.RegionLaw
namespace Go.Proofs.Ytekelnkjigaofaa
open Go.RowKit
set_option linter.unusedVariables false
set_option linter.unusedSimpArgs false

theorem Try.infoInt : (Try.prog.info? 3).map (fun i => (i.zero, i.size, i.bytes)) = some (some (.int .i64 0), 1, 8) := by kernel_rfl
/-- each trade names the one that was placed, and one that stood there -/
theorem Places.names {o : Od} {L : List Od} {T : List Td} {o1 : Od} {L1 : List Od} (h : Places o L T o1 L1) : ∀ t ∈ T, (t.buy = o.id ∨ ∃ x ∈ L, x.id = t.buy) ∧ (t.sell = o.id ∨ ∃ x ∈ L, x.id = t.sell) := by
  induction h with
  | done o L h => intro t ht; cases ht
  | step o x L T o' L' h0 hb h ih =>
    intro t ht
    rcases List.mem_cons.1 ht with rfl | ht
    · unfold tradeP
      split
      · exact ⟨.inl rfl, .inr ⟨x, hb.1, rfl⟩⟩
      · exact ⟨.inr ⟨x, hb.1, rfl⟩, .inl rfl⟩
    · obtain ⟨h1, h2⟩ := ih t ht
      have sub : ∀ n : Int, (∃ y ∈ takeN x (mn o.ct x.ct) L, y.id = n) → ∃ y ∈ L, y.id = n := fun n ⟨y, hy, e⟩ => by
        obtain ⟨z, hz, e2, _⟩ := takeN_mem hy
        exact ⟨z, hz, e2.trans e⟩
      exact ⟨h1.imp (fun h => h) (sub _), h2.imp (fun h => h) (sub _)⟩
theorem Placed.names {L : List Od} {last : Int} {o : Od} {T : List Td} {n e : Int} {L' : List Od} {last' : Int} (h : Placed L last o T n e L' last') : ∀ t ∈ T, (t.buy = o.id ∨ ∃ x ∈ L, x.id = t.buy) ∧ (t.sell = o.id ∨ ∃ x ∈ L, x.id = t.sell) := by
  cases h with
  | bad => intro t ht; cases ht
  | full => intro t ht; cases ht
  | ok _ _ _ _ _ _ hp _ => exact hp.names
theorem gone_sub {id g : Int} {L : List Od} (h : ∀ y ∈ L, y.id ≠ g) : ∀ y ∈ goneO id L, y.id ≠ g := fun y hy => h y (List.mem_filter.1 hy).1
theorem gone_none (id : Int) (L : List Od) : ∀ y ∈ goneO id L, y.id ≠ id := fun y hy => by simpa using (List.mem_filter.1 hy).2
theorem and7 (z : Int) : bits .and .i64 z 7 = z % 8 := by
  show IntKind.i64.wrap (((BitVec.ofInt 64 z &&& BitVec.ofInt 64 7).toNat : Nat) : Int) = _
  rw [BitVec.toNat_and, BitVec.toNat_ofInt, show (BitVec.ofInt 64 7).toNat = 2 ^ 3 - 1 from rfl, Nat.and_two_pow_sub_one_eq_mod, IntKind.wrap_i64]
  omega
theorem and31 (z : Int) : bits .and .i64 z 31 = z % 32 := by
  show IntKind.i64.wrap (((BitVec.ofInt 64 z &&& BitVec.ofInt 64 31).toNat : Nat) : Int) = _
  rw [BitVec.toNat_and, BitVec.toNat_ofInt, show (BitVec.ofInt 64 31).toNat = 2 ^ 5 - 1 from rfl, Nat.and_two_pow_sub_one_eq_mod, IntKind.wrap_i64]
  omega
def ints (G : List Int) : List Value := G.flatMap fun r => [.int .i64 r]
theorem ints_at (G : List Int) (q : Nat) (h : q < G.length) : (ints G)[q]? = some (.int .i64 G[q]) := by
  have := flat_get (fun r : Int => [Value.int .i64 r]) 1 (fun _ => rfl) G q 0 (by omega)
  rw [List.getElem?_eq_getElem h] at this
  simpa [ints] using this
theorem one_int {w : World} {e : TypeId} {z : Int} {n : Nat} (hn : n = w.heap.size) : Cells (w.alloc (.cells #[.int .i64 z] e)) (w.alloc (.cells #[.int .i64 z] e)).heap.size (some ⟨n, 0, none⟩) 1 1 1 [.int .i64 z] := by
  subst hn
  refine ⟨rfl, (fun e => by cases e), ?_⟩
  intro j u hu
  refine ⟨w.heap.size, 0, rfl, by simp, ?_⟩
  rw [Nat.zero_add, cell_of_row _ _ _ _ _ _ (heap_alloc_new w _)]
  simpa using hu
set_option maxHeartbeats 10000000 in
set_option maxRecDepth 10000 in
theorem walkBookGone (A : Option Addr) (c : Nat) (xs : List Int) (A2 : Option Addr) (c2 : Nat) (ys : List Int) (o : Od) (w : World) (hx : Cells w w.heap.size A xs.length c 1 (xs.flatMap fun r => [.int .i64 r])) (hy : Cells w w.heap.size A2 ys.length c2 1 (ys.flatMap fun r => [.int .i64 r])) :
    Calls Try.prog 9 #[.slice A xs.length c, .slice A2 ys.length c2, odA o] w fun e w' => e = .returned (.bool true) ∧ Below w.heap.size w w' := by
  unfold odA
  by_cases h20 : 20 < xs.length
  · have q1 : (20 : Int) < (xs.length : Int) := by omega
    clear hx hy
    go_enter Try.func9, Try.ntmps9
    go_wp2_with fail
    go_ret
    exact ⟨rfl, by ((repeat (first | (with_reducible exact Below.refl _ _) | (with_reducible assumption) | ((with_reducible refine b_set ?_ ?_); · (first | omega | (simp; done) | (simp; omega))) | ((with_reducible refine b_alloc ?_ ?_); · (first | omega | (simp; done) | (simp; omega))) | (with_reducible refine Below.drew ?_) | (with_reducible refine b_drewN ?_) | ((with_reducible refine b_call (by assumption) ?_ ?_); · (first | omega | (simp; done) | (simp; omega))))); done)⟩
  by_cases h40 : 40 < ys.length
  · have q1 : ¬ (20 : Int) < (xs.length : Int) := by omega
    have q2 : (40 : Int) < (ys.length : Int) := by omega
    clear hx hy
    go_enter Try.func9, Try.ntmps9
    go_wp2_with fail
    go_ret
    exact ⟨rfl, by ((repeat (first | (with_reducible exact Below.refl _ _) | (with_reducible assumption) | ((with_reducible refine b_set ?_ ?_); · (first | omega | (simp; done) | (simp; omega))) | ((with_reducible refine b_alloc ?_ ?_); · (first | omega | (simp; done) | (simp; omega))) | (with_reducible refine Below.drew ?_) | (with_reducible refine b_drewN ?_) | ((with_reducible refine b_call (by assumption) ?_ ?_); · (first | omega | (simp; done) | (simp; omega))))); done)⟩
  by_cases hi1 : o.id ≤ 40
  · have q1 : ¬ (20 : Int) < (xs.length : Int) := by omega
    have q2 : ¬ (40 : Int) < (ys.length : Int) := by omega
    clear hx hy
    go_enter Try.func9, Try.ntmps9
    go_wp2_with fail
    go_ret
    exact ⟨rfl, by ((repeat (first | (with_reducible exact Below.refl _ _) | (with_reducible assumption) | ((with_reducible refine b_set ?_ ?_); · (first | omega | (simp; done) | (simp; omega))) | ((with_reducible refine b_alloc ?_ ?_); · (first | omega | (simp; done) | (simp; omega))) | (with_reducible refine Below.drew ?_) | (with_reducible refine b_drewN ?_) | ((with_reducible refine b_call (by assumption) ?_ ?_); · (first | omega | (simp; done) | (simp; omega))))); done)⟩
  by_cases hi2 : 1000 < o.id
  · have q1 : ¬ (20 : Int) < (xs.length : Int) := by omega
    have q2 : ¬ (40 : Int) < (ys.length : Int) := by omega
    clear hx hy
    go_enter Try.func9, Try.ntmps9
    go_wp2_with fail
    go_ret
    exact ⟨rfl, by ((repeat (first | (with_reducible exact Below.refl _ _) | (with_reducible assumption) | ((with_reducible refine b_set ?_ ?_); · (first | omega | (simp; done) | (simp; omega))) | ((with_reducible refine b_alloc ?_ ?_); · (first | omega | (simp; done) | (simp; omega))) | (with_reducible refine Below.drew ?_) | (with_reducible refine b_drewN ?_) | ((with_reducible refine b_call (by assumption) ?_ ?_); · (first | omega | (simp; done) | (simp; omega))))); done)⟩
  have q1 : ¬ (20 : Int) < (xs.length : Int) := by omega
  have q2 : ¬ (40 : Int) < (ys.length : Int) := by omega
  have HX := Lib.hid hx
  have HY := Lib.hid hy
  obtain ⟨i0, hii, hz0, hz1, hz2⟩ := info_parts Try.infoInt
  clear hx hy
  go_enter Try.func9, Try.ntmps9
  have hsz0 : (w.alloc (.cells #[.int .i64 o.id, .string o.who, .bool o.buy, .int .i64 o.item, .int .i64 o.ct, .int .i64 o.pr] 35)).heap.size = w.heap.size + 1 := by simp
  go_wp2_with (first
    | (go_at_call 18; go_loud (refine (newBook _).mono ?_; rintro e w1 ⟨rfl, hb1, hb⟩; have hs1 := hb.size; rw [hsz0] at hb1; have hP1 := (Whl.new (t := 35) (cs := #[.int .i64 o.id, .string o.who, .bool o.buy, .int .i64 o.item, .int .i64 o.ct, .int .i64 o.pr]) (w := w) rfl).below hb (by simp); have hBL : Below w.heap.size w w1 := ((Below.refl _ _).alloc (Nat.le_refl _) _).trans (hb.mono (by simp)); have HB1 := Lib.hid hb1; have HBL := Lib.hid hBL; have HP1 := Lib.hid hP1; clear hb1 hb hBL hP1))
    | fail)
  obtain ⟨w1b, hw1b⟩ : ∃ b, b = w.heap.size + 1 := ⟨_, rfl⟩
  have HF1 : Hid (∀ x, Ft w1b (fun _ => .slice none 0 0) x → w.heap.size < x) := Lib.hid (fun x hx => by
    rcases hx with e | ⟨i, _, e⟩
    · omega
    · cases e)
  rw [← hw1b] at HB1 ⊢
  clear hw1b
  go_loopw [8] (fun iv wr => ∃ (i : Nat) (v : Nat → Value) (L : List Od) (last : Int), i ≤ xs.length ∧ iv = .int .i64 i ∧ BookAt wr w1b v L last ∧ (∀ x, Ft w1b v x → w.heap.size < x) ∧ Whl wr w.heap.size 35 #[.int .i64 o.id, .string o.who, .bool o.buy, .int .i64 o.item, .int .i64 o.ct, .int .i64 o.pr] ∧ Below w.heap.size w wr) (fun iv _ => xs.length - (intOf iv).toNat)
  case atStart => exact ⟨0, _, [], 0, Nat.zero_le _, rfl, HB1.out, HF1.out, HP1.out, HBL.out⟩
  case round =>
    obtain ⟨i, v, L, last, hil, rfl, hB, hF, hP, hBw⟩ := hrel
    have HB := Lib.hid hB
    have HF := Lib.hid hF
    have HP := Lib.hid hP
    have HW := Lib.hid hBw
    have hsw := hBw.size
    by_cases hlt : i < xs.length
    · have q3 : (i : Int) < (xs.length : Int) := by omega
      obtain ⟨qb, qo, rfl, hqb, e0⟩ := int_at HX.out hlt
      have e1 := bkeep hBw e0 hqb
      have hand := and7 (xs[i])
      obtain ⟨z, hz⟩ : ∃ z, z = xs[i] % 8 := ⟨_, rfl⟩
      rw [← hz] at hand
      have hz0 : 0 ≤ z ∧ z < 8 := by omega
      clear hB hF hP hBw hz e0
      go_wp2_with (first
        | (go_at_call 16; go_loud (refine (place w1b v L last ⟨(i : Int) + 1, ⟨#[115]⟩, false, 1, 2, 1 + z⟩ _ HB.out).mono ?_; rintro e w3 ⟨T, n, c, L', last', v', tv, rfl, hp, hb, ho, ha, ht, hf⟩; have HB3 := Lib.hid hb; have HT3 := Lib.hid ht; have HF3 := Lib.hid hf; clear ho hb ha hf hp ht))
        | fail)
      refine ⟨⟨i + 1, v', L', last', hlt, by go_num, HB3.out, fun x hx => ?_, (HT3.out.block _ HP.out.low (fun h => by have := HF.out _ h; omega)).trans HP.out, HW.out.trans (HT3.out.below hsw (fun x hx => by have := HF.out x hx; omega))⟩, measI hlt⟩
      rcases HF3.out x hx with h | h
      · exact HF.out x h
      · have := HP.out.low; omega
    · obtain rfl : i = xs.length := by omega
      clear hB hF hP hBw
      go_wp2_with fail
      have HBa := Lib.hid HB.out
      have HFa := Lib.hid HF.out
      have HPa := Lib.hid HP.out
      have HWa := Lib.hid HW.out
      clear HB HF HP HW
      go_loopw [9, 10] (fun gv iv wq => ∃ (i : Nat) (v : Nat → Value) (L : List Od) (last : Int) (G : List Int) (gu : Value), gv = gu ∧ i ≤ ys.length ∧ iv = .int .i64 i ∧ BookAt wq w1b v L last ∧ (∀ x, Ft w1b v x → w.heap.size < x) ∧ Whl wq w.heap.size 35 #[.int .i64 o.id, .string o.who, .bool o.buy, .int .i64 o.item, .int .i64 o.ct, .int .i64 o.pr] ∧ Below w.heap.size w wq ∧ wq.ownsRow (w.heap.size + 1) 3 1 gu i (ints G) ∧ G.length = i ∧ (∀ x, gu.ownBlock = some x → ¬ Ft w1b v x) ∧ (∀ g ∈ G, (1 ≤ g ∧ g ≤ 32) ∧ ∀ y ∈ L, y.id ≠ g)) (fun _ iv _ => ys.length - (intOf iv).toNat)
      case atStart => exact ⟨0, v, L, last, [], _, rfl, Nat.zero_le _, rfl, HBa.out, HFa.out, HPa.out, HWa.out, World.ownsRow_nil _ _ _ _, rfl, (fun x hx => by cases hx), by simp⟩
      case round =>
        clear HBa HFa HPa HWa hsw
        obtain ⟨i, v, L, last, G, gu, hgu, hil, rfl, hB, hF, hP, hBw, hO, hGl, hap, hG⟩ := hrel
        have hgu := hgu.symm
        subst hgu
        have HB := Lib.hid hB
        have HF := Lib.hid hF
        have HP := Lib.hid hP
        have HW := Lib.hid hBw
        have HO := Lib.hid hO
        have HAP := Lib.hid hap
        have HG := Lib.hid hG
        have hsw := hBw.size
        by_cases hlt : i < ys.length
        · have q3 : (i : Int) < (ys.length : Int) := by omega
          obtain ⟨qb, qo, rfl, hqb, e0⟩ := int_at HY.out hlt
          have e1 := bkeep hBw e0 hqb
          have hand := and31 (ys[i])
          obtain ⟨z, hz⟩ : ∃ z, z = ys[i] % 32 := ⟨_, rfl⟩
          rw [← hz] at hand
          have hzb : 0 ≤ z ∧ z < 32 := by omega
          have TOK := Lib.hid True.intro
          clear hB hF hP hBw hO hap hG hz e0
          by_cases hin : ∃ y ∈ L, y.id = z + 1
          · have HIN := Lib.hid hin
            clear hin
            go_wp2_with (first
              | (go_at_call 19; have hgg := TOK; clear hgg TOK; go_loud (refine (cancel w1b v L last (z + 1) _ HB.out).mono ?_; rintro e w3 ⟨x1, c1, v3, he, hc1, hb3, ht3, hf3⟩; unfold odA at he; have hcc : c1 = 0 := (by obtain ⟨y, hy, e⟩ := HIN.out; rcases hc1 with ⟨_, _, h⟩ | ⟨h, _, _⟩; exact h; exact absurd e (h y hy)); subst hcc; subst he; have hs3 := ht3.size; have HB3 := Lib.hid hb3; have HT3 := Lib.hid ht3; have HF3 := Lib.hid hf3; clear hc1 hb3 ht3 hf3))
              | (go_at_call 19; have hgg := HB3; clear hgg; go_loud (refine (cancel w1b v3 _ last (z + 1) _ (HB3.out.keep (D := fun _ => False) ((Touch.refl _ _).alloc _) (fun _ _ h => h))).mono ?_; rintro e w4 ⟨x2, c2', v4, he, hc2, hb4, ht4, hf4⟩; have hc7 : c2' = 7 := (by rcases hc2 with ⟨h1, h2, _⟩ | ⟨_, _, h⟩; exact absurd h2 (gone_none _ _ x2 h1); exact h); subst hc7; unfold odA at he; subst he; have hs4 := ht4.size; have HB4 := Lib.hid hb4; have hF4 : Hid (∀ x, Ft w1b v4 x → Ft w1b v x) := Lib.hid (fun x hx => HF3.out x (hf4 x hx)); have hT4 : Hid (Touch (Ft w1b v) wr w4) := Lib.hid ((HT3.out.alloc _).trans ht4 (fun x hx h => HF3.out x h)); have hP4 : Hid (Whl w4 w.heap.size 35 #[.int .i64 o.id, .string o.who, .bool o.buy, .int .i64 o.item, .int .i64 o.ct, .int .i64 o.pr]) := Lib.hid ((hT4.out.block _ HP.out.low (fun h => by have := HF.out _ h; omega)).trans HP.out); have hO4 : Hid (w4.ownsRow (w.heap.size + 1) 3 1 gu i (ints G)) := Lib.hid (hT4.out.own HO.out (fun g hg hf => HAP.out g hg hf)); have hW4 : Hid (Below w.heap.size w w4) := Lib.hid (HW.out.trans (hT4.out.below hsw (fun x hx => by have := HF.out x hx; omega))); have hs4' := hT4.out.size; have hsP := HP.out.low; clear hc2 hb4 ht4 hf4))
              | (at_builtin; go_loud (refine wpList_append_touch rfl (.tmp 93) (.tmp 95) 57 rfl (w.heap.size + 1) 3 i0 (.int .i64 0) 1 8 Try.underlying57 hii hz0 hz1 hz2 rfl (by decide) gu i (ints G) rfl ((hO4.out.alloc _).alloc _) _ _ 1 1 [.int .i64 (z + 1)] rfl (one_int (by simp)) (by intro u hu; simp at hu; subst hu; rfl) (by unfold maxLen; omega) (by omega) (by simp; omega) ?_; intro v5 w5 hown5 ht5 hb5; have hs5 := ht5.size; have HO5 := Lib.hid hown5; have HT5 := Lib.hid (((Touch.refl (fun k => gu.ownBlock = some k) w4).alloc _ |>.alloc _).trans ht5 (fun _ _ h => h)); have HB5 := Lib.hid hb5; clear hown5 ht5 hb5))
              | fail)
            have hs45 := HT5.out.size
            refine ⟨⟨i + 1, v4, _, last, G ++ [z + 1], v5, rfl, hlt, by go_num, HB4.out.keep HT5.out (fun x hx e => HAP.out x e (hF4.out x hx)), fun x hx => HF.out x (hF4.out x hx), (HT5.out.block _ hP4.out.low (fun e => by have := (HO.out.lt _ e).1; omega)).trans hP4.out, hW4.out.trans (HT5.out.below (by omega) (fun x hx => by have := (HO.out.lt x hx).1; omega)), by have := HO5.out; simpa [ints] using this, by rw [List.length_append, hGl]; rfl, fun x hx hf => ?_, ?_⟩, measI hlt⟩
            · rcases HB5.out with e | e
              · exact HAP.out x (e ▸ hx) (hF4.out x hf)
              · have h1 := HB4.out.lows x hf
                rw [e] at hx
                injection hx with hx
                simp at hx
                omega
            · intro g hg
              rcases List.mem_append.1 hg with hg | hg
              · obtain ⟨h1, h2⟩ := HG.out g hg
                exact ⟨h1, gone_sub (gone_sub h2)⟩
              · simp only [List.mem_singleton] at hg
                subst hg
                exact ⟨by omega, gone_none _ _⟩
          · have HIN := Lib.hid hin
            clear hin
            go_wp2_with (first
              | (go_at_call 19; have hgg := TOK; clear hgg TOK; go_loud (refine (cancel w1b v L last (z + 1) _ HB.out).mono ?_; rintro e w3 ⟨x1, c1, v3, he, hc1, hb3, ht3, hf3⟩; unfold odA at he; have hcc : c1 = 7 := (by rcases hc1 with ⟨h1, h2, _⟩ | ⟨_, _, h⟩; exact absurd ⟨_, h1, h2⟩ HIN.out; exact h); subst hcc; subst he; have hs3 := ht3.size; have HB3 := Lib.hid hb3; have HT3 := Lib.hid ht3; have HF3 := Lib.hid hf3; clear hc1 hb3 ht3 hf3))
              | (go_at_call 19; have hgg := HB3; clear hgg; go_loud (refine (cancel w1b v3 _ last (z + 1) _ (HB3.out.keep (D := fun _ => False) ((Touch.refl _ _).alloc _) (fun _ _ h => h))).mono ?_; rintro e w4 ⟨x2, c2', v4, he, hc2, hb4, ht4, hf4⟩; have hc7 : c2' = 7 := (by rcases hc2 with ⟨h1, h2, _⟩ | ⟨_, _, h⟩; exact absurd h2 (gone_none _ _ x2 h1); exact h); subst hc7; unfold odA at he; subst he; have hs4 := ht4.size; have HB4 := Lib.hid hb4; have hF4 : Hid (∀ x, Ft w1b v4 x → Ft w1b v x) := Lib.hid (fun x hx => HF3.out x (hf4 x hx)); have hT4 : Hid (Touch (Ft w1b v) wr w4) := Lib.hid ((HT3.out.alloc _).trans ht4 (fun x hx h => HF3.out x h)); have hP4 : Hid (Whl w4 w.heap.size 35 #[.int .i64 o.id, .string o.who, .bool o.buy, .int .i64 o.item, .int .i64 o.ct, .int .i64 o.pr]) := Lib.hid ((hT4.out.block _ HP.out.low (fun h => by have := HF.out _ h; omega)).trans HP.out); have hO4 : Hid (w4.ownsRow (w.heap.size + 1) 3 1 gu i (ints G)) := Lib.hid (hT4.out.own HO.out (fun g hg hf => HAP.out g hg hf)); have hW4 : Hid (Below w.heap.size w w4) := Lib.hid (HW.out.trans (hT4.out.below hsw (fun x hx => by have := HF.out x hx; omega))); have hs4' := hT4.out.size; have hsP := HP.out.low; clear hc2 hb4 ht4 hf4))
              | (at_builtin; go_loud (refine wpList_append_touch rfl (.tmp 93) (.tmp 95) 57 rfl (w.heap.size + 1) 3 i0 (.int .i64 0) 1 8 Try.underlying57 hii hz0 hz1 hz2 rfl (by decide) gu i (ints G) rfl ((hO4.out.alloc _).alloc _) _ _ 1 1 [.int .i64 (z + 1)] rfl (one_int (by simp)) (by intro u hu; simp at hu; subst hu; rfl) (by unfold maxLen; omega) (by omega) (by simp; omega) ?_; intro v5 w5 hown5 ht5 hb5; have hs5 := ht5.size; have HO5 := Lib.hid hown5; have HT5 := Lib.hid (((Touch.refl (fun k => gu.ownBlock = some k) w4).alloc _ |>.alloc _).trans ht5 (fun _ _ h => h)); have HB5 := Lib.hid hb5; clear hown5 ht5 hb5))
              | fail)
            have hs45 := HT5.out.size
            refine ⟨⟨i + 1, v4, _, last, G ++ [z + 1], v5, rfl, hlt, by go_num, HB4.out.keep HT5.out (fun x hx e => HAP.out x e (hF4.out x hx)), fun x hx => HF.out x (hF4.out x hx), (HT5.out.block _ hP4.out.low (fun e => by have := (HO.out.lt _ e).1; omega)).trans hP4.out, hW4.out.trans (HT5.out.below (by omega) (fun x hx => by have := (HO.out.lt x hx).1; omega)), by have := HO5.out; simpa [ints] using this, by rw [List.length_append, hGl]; rfl, fun x hx hf => ?_, ?_⟩, measI hlt⟩
            · rcases HB5.out with e | e
              · exact HAP.out x (e ▸ hx) (hF4.out x hf)
              · have h1 := HB4.out.lows x hf
                rw [e] at hx
                injection hx with hx
                simp at hx
                omega
            · intro g hg
              rcases List.mem_append.1 hg with hg | hg
              · obtain ⟨h1, h2⟩ := HG.out g hg
                exact ⟨h1, gone_sub (gone_sub h2)⟩
              · simp only [List.mem_singleton] at hg
                subst hg
                exact ⟨by omega, gone_none _ _⟩
        · obtain rfl : i = ys.length := by omega
          have hd := fun q => hP.cell q
          have d0 := hP.cell 0
          have d1 := hP.cell 1
          have d2 := hP.cell 2
          have d3 := hP.cell 3
          have d4 := hP.cell 4
          have d5 := hP.cell 5
          simp only [List.getElem?_toArray, List.getElem?_cons_succ, List.getElem?_cons_zero] at d0 d1 d2 d3 d4 d5
          clear hd hB hF hP hBw hO hap hG
          go_wp2_with (first
            | (go_at_call 16; go_loud (refine (place w1b v L last o _ HB.out).mono ?_; rintro e w3 ⟨T, n, c3, L', last', v3, tv, rfl, hp, hb, ho, ha, ht, hf⟩; have hs3 := ht.size; have HT3 := Lib.hid ht; have HTV := Lib.hid ho; have HNM := Lib.hid hp.names; have hTl := hp.len; obtain ⟨At, kt, hvt, _, _, _⟩ := own_slice ho; subst hvt; obtain ⟨Ag, kg, hvg, _, _, _⟩ := own_slice HO.out; clear ho hb ha hf hp ht))
            | fail)
          have HG3 : Hid (w3.ownsRow (w.heap.size + 1) 3 1 gu ys.length (ints G)) := Lib.hid (HT3.out.own HO.out (fun g hg hf => HAP.out g hg hf))
          have HW3 : Hid (Below w.heap.size w w3) := Lib.hid (HW.out.trans (HT3.out.below hsw (fun x hx => by have := HF.out x hx; omega)))
          subst hvg
          clear HO HT3
          go_loopw [19] (fun pv wp => ∃ p : Nat, p ≤ T.length ∧ pv = .int .i64 p ∧ Below w3.heap.size w3 wp) (fun pv _ => T.length - (intOf pv).toNat)
          case atStart => exact ⟨0, Nat.zero_le _, rfl, Below.refl _ _⟩
          case round =>
            obtain ⟨p, hpl, rfl, hBp⟩ := hrel
            have HBP := Lib.hid hBp
            have hsp := hBp.size
            clear hBp
            by_cases hpt : p < T.length
            · have q4 : (p : Int) < (T.length : Int) := by omega
              obtain ⟨t, htt⟩ : ∃ t, t = T[p] := ⟨_, rfl⟩
              have htn := HNM.out t (by rw [htt]; exact List.getElem_mem hpt)
              have HTN := Lib.hid htn
              have HTT := Lib.hid htt
              clear htn htt
              go_wp2_with fail
              go_loopw [20] (fun qv wq => ∃ q : Nat, q ≤ ys.length ∧ qv = .int .i64 q ∧ Below w3.heap.size w3 wq) (fun qv _ => ys.length - (intOf qv).toNat)
              case atStart => exact ⟨0, Nat.zero_le _, rfl, HBP.out⟩
              case round =>
                obtain ⟨q, hql, rfl, hBq⟩ := hrel
                have HBQ := Lib.hid hBq
                by_cases hqy : q < ys.length
                · have q5 : (q : Int) < (ys.length : Int) := by omega
                  have hg3 := row_below HG3.out hBq
                  have ht3 := row_below HTV.out hBq
                  obtain ⟨gg, kg', e5, _, hgg, _, _⟩ := own_form hg3 (by omega)
                  injection e5 with e5 e6 e7
                  subst e5 e7
                  obtain ⟨gt, kt', e8, _, hgt, _, _⟩ := own_form ht3 (by omega)
                  injection e8 with e8 e9 e10
                  subst e8 e10
                  obtain ⟨y0, y1, y2, y3, y4, y5, y6, y7⟩ := flatT_at T p hpt
                  rw [← HTT.out] at y2 y3
                  have a2 := (ht3.cellAt (p * 8 + 2) (by omega)).trans y2
                  have a3 := (ht3.cellAt (p * 8 + 3) (by omega)).trans y3
                  have hqG : q < G.length := by omega
                  have a4 := (hg3.cellAt q (by omega)).trans (ints_at G q hqG)
                  have hgood := HG.out G[q] (List.getElem_mem hqG)
                  obtain ⟨z, hz⟩ : ∃ z, z = G[q] := ⟨_, rfl⟩
                  rw [← hz] at a4 hgood
                  have hne3 : ¬ t.sell = z := by
                    rcases HTN.out.2 with e | ⟨y, hy, e⟩
                    · omega
                    · rw [← e]; exact hgood.2 y hy
                  have hne2 : ¬ t.buy = z := by
                    rcases HTN.out.1 with e | ⟨y, hy, e⟩
                    · omega
                    · rw [← e]; exact hgood.2 y hy
                  obtain ⟨ts, hts⟩ : ∃ z, z = t.sell := ⟨_, rfl⟩
                  obtain ⟨tb, htb⟩ : ∃ z, z = t.buy := ⟨_, rfl⟩
                  rw [← hts] at a3 hne3
                  rw [← htb] at a2 hne2
                  clear y0 y1 y2 y3 y4 y5 y6 y7 hg3 ht3 hgood hz hts htb hBq
                  go_wp2_with fail
                  refine wp_region_held_drew (S := (fun W => W.cell? ⟨gt, p * 8 + 3, none⟩ = some (.int .i64 ts) ∧ W.cell? ⟨gt, p * 8 + 2, none⟩ = some (.int .i64 tb) ∧ W.cell? ⟨gg, q, none⟩ = some (.int .i64 z))) (by kernel_rfl) ⟨a3, a2, a4⟩ (fun hHeld => ?_)
                  refine wpAnyH_take (i := 0) (oi := ⟨some 116, _, _, _, _, _⟩) (v := ?v0g) rfl (by kernel_rfl) (by kernel_rfl) (by kernel_rfl) (fun _ _ _ h => h) (Or.inl ⟨by rfl, ?y0g⟩) (by assumption) ?r0g
                  case y0g => (intro w hSw; (try dsimp only at hSw); (try go_split_ands); go_simp); (try with_reducible rfl)
                  case r0g =>
                  (try simp only [Act.put, List.setIfInBounds_toArray, List.set_cons_zero, List.set_cons_succ])
                  refine wpAnyH_take (i := 1) (oi := ⟨some 117, _, _, _, _, _⟩) (v := ?v1g) rfl (by kernel_rfl) (by kernel_rfl) (by kernel_rfl) (fun _ _ _ h => h) (Or.inl ⟨by rfl, ?y1g⟩) (by assumption) ?r1g
                  case y1g => (intro w hSw; (try dsimp only at hSw); (try go_split_ands); go_simp); (try with_reducible rfl)
                  case r1g =>
                  (try simp only [Act.put, List.setIfInBounds_toArray, List.set_cons_zero, List.set_cons_succ])
                  refine wpAnyH_take (i := 2) (oi := ⟨some 118, _, _, _, _, _⟩) (v := ?v2g) rfl (by kernel_rfl) (by kernel_rfl) (by kernel_rfl) (fun _ _ _ h => h) (Or.inl ⟨by rfl, ?y2g⟩) (by assumption) ?r2g
                  case y2g => (intro w hSw; (try dsimp only at hSw); (try go_split_ands); go_simp); (try with_reducible rfl)
                  case r2g =>
                  (try simp only [Act.put, List.setIfInBounds_toArray, List.set_cons_zero, List.set_cons_succ])
                  refine wpAnyH_take (i := 3) (oi := ⟨some 119, _, _, _, _, _⟩) (v := ?v3g) rfl (by kernel_rfl) (by kernel_rfl) (by kernel_rfl) (fun _ _ _ h => h) (Or.inl ⟨by rfl, ?y3g⟩) (by assumption) ?r3g
                  case y3g => (intro w hSw; (try dsimp only at hSw); (try go_split_ands); go_simp); (try with_reducible rfl)
                  case r3g =>
                  (try simp only [Act.put, List.setIfInBounds_toArray, List.set_cons_zero, List.set_cons_succ])
                  refine wpAnyH_take (i := 4) (oi := ⟨some 120, _, _, _, _, _⟩) (v := ?v4g) rfl (by kernel_rfl) (by kernel_rfl) (by kernel_rfl) (fun _ _ _ h => h) (Or.inl ⟨by rfl, ?y4g⟩) (by assumption) ?r4g
                  case y4g => (intro w hSw; (try dsimp only at hSw); (try go_split_ands); go_simp); (try with_reducible rfl)
                  case r4g =>
                  (try simp only [Act.put, List.setIfInBounds_toArray, List.set_cons_zero, List.set_cons_succ])
                  refine wpAnyH_take (i := 5) (oi := ⟨some 121, _, _, _, _, _⟩) (v := ?v5g) rfl (by kernel_rfl) (by kernel_rfl) (by kernel_rfl) (fun _ _ _ h => h) (Or.inl ⟨by rfl, ?y5g⟩) (by assumption) ?r5g
                  case y5g => (intro w hSw; (try dsimp only at hSw); (try go_split_ands); go_simp); (try with_reducible rfl)
                  case r5g =>
                  (try simp only [Act.put, List.setIfInBounds_toArray, List.set_cons_zero, List.set_cons_succ])
                  refine wpAnyH_take (i := 6) (oi := ⟨some 122, _, _, _, _, _⟩) (v := ?v6g) rfl (by kernel_rfl) (by kernel_rfl) (by kernel_rfl) (fun _ _ _ h => h) (Or.inl ⟨by rfl, ?y6g⟩) (by assumption) ?r6g
                  case y6g => (intro w hSw; (try dsimp only at hSw); (try go_split_ands); go_simp); (try with_reducible rfl)
                  case r6g =>
                  (try simp only [Act.put, List.setIfInBounds_toArray, List.set_cons_zero, List.set_cons_succ])
                  refine wpAnyH_take (i := 7) (oi := ⟨some 123, _, _, _, _, _⟩) (v := ?v7g) rfl (by kernel_rfl) (by kernel_rfl) (by kernel_rfl) (fun _ _ _ h => h) (Or.inl ⟨by rfl, ?y7g⟩) (by assumption) ?r7g
                  case y7g => (intro w hSw; (try dsimp only at hSw); (try go_split_ands); go_simp); (try with_reducible rfl)
                  case r7g =>
                  (try simp only [Act.put, List.setIfInBounds_toArray, List.set_cons_zero, List.set_cons_succ])
                  refine wpAnyH_take (i := 8) (oi := ⟨some 124, _, _, _, _, _⟩) (v := ?v8g) rfl (by kernel_rfl) (by kernel_rfl) (by kernel_rfl) (fun _ _ _ h => h) (Or.inl ⟨by rfl, ?y8g⟩) (by assumption) ?r8g
                  case y8g => (intro w hSw; (try dsimp only at hSw); (try go_split_ands); go_simp); (try with_reducible rfl)
                  case r8g =>
                  (try simp only [Act.put, List.setIfInBounds_toArray, List.set_cons_zero, List.set_cons_succ])
                  refine wpAnyH_take (i := 9) (oi := ⟨some 125, _, _, _, _, _⟩) (v := .bool false) rfl (by kernel_rfl) (by kernel_rfl) (by kernel_rfl) (fun _ _ _ h => h) (Or.inl ⟨by rfl, ?y9g⟩) (by assumption) ?r9g
                  case y9g => (intro w hSw; (try dsimp only at hSw); (try go_split_ands); go_simp)
                  case r9g =>
                  (try simp only [Act.put, List.setIfInBounds_toArray, List.set_cons_zero, List.set_cons_succ])
                  refine wpAnyH_take (i := 10) (oi := ⟨some 126, _, _, _, _, _⟩) (v := ?v10g) rfl (by kernel_rfl) (by kernel_rfl) (by kernel_rfl) (fun _ _ _ h => h) (Or.inl ⟨by rfl, ?y10g⟩) (by assumption) ?r10g
                  case y10g => (intro w hSw; (try dsimp only at hSw); (try go_split_ands); go_simp); (try with_reducible rfl)
                  case r10g =>
                  (try simp only [Act.put, List.setIfInBounds_toArray, List.set_cons_zero, List.set_cons_succ])
                  refine wpAnyH_take (i := 11) (oi := ⟨some 127, _, _, _, _, _⟩) (v := ?v11g) rfl (by kernel_rfl) (by kernel_rfl) (by kernel_rfl) (fun _ _ _ h => h) (Or.inl ⟨by rfl, ?y11g⟩) (by assumption) ?r11g
                  case y11g => (intro w hSw; (try dsimp only at hSw); (try go_split_ands); go_simp); (try with_reducible rfl)
                  case r11g =>
                  (try simp only [Act.put, List.setIfInBounds_toArray, List.set_cons_zero, List.set_cons_succ])
                  refine wpAnyH_take (i := 12) (oi := ⟨some 128, _, _, _, _, _⟩) (v := ?v12g) rfl (by kernel_rfl) (by kernel_rfl) (by kernel_rfl) (fun _ _ _ h => h) (Or.inl ⟨by rfl, ?y12g⟩) (by assumption) ?r12g
                  case y12g => (intro w hSw; (try dsimp only at hSw); (try go_split_ands); go_simp); (try with_reducible rfl)
                  case r12g =>
                  (try simp only [Act.put, List.setIfInBounds_toArray, List.set_cons_zero, List.set_cons_succ])
                  refine wpAnyH_take (i := 13) (oi := ⟨some 129, _, _, _, _, _⟩) (v := ?v13g) rfl (by kernel_rfl) (by kernel_rfl) (by kernel_rfl) (fun _ _ _ h => h) (Or.inl ⟨by rfl, ?y13g⟩) (by assumption) ?r13g
                  case y13g => (intro w hSw; (try dsimp only at hSw); (try go_split_ands); go_simp); (try with_reducible rfl)
                  case r13g =>
                  (try simp only [Act.put, List.setIfInBounds_toArray, List.set_cons_zero, List.set_cons_succ])
                  refine wpAnyH_take (i := 14) (oi := ⟨some 130, _, _, _, _, _⟩) (v := ?v14g) rfl (by kernel_rfl) (by kernel_rfl) (by kernel_rfl) (fun _ _ _ h => h) (Or.inl ⟨by rfl, ?y14g⟩) (by assumption) ?r14g
                  case y14g => (intro w hSw; (try dsimp only at hSw); (try go_split_ands); go_simp); (try with_reducible rfl)
                  case r14g =>
                  (try simp only [Act.put, List.setIfInBounds_toArray, List.set_cons_zero, List.set_cons_succ])
                  refine wpAnyH_take (i := 15) (oi := ⟨some 131, _, _, _, _, _⟩) (v := ?v15g) rfl (by kernel_rfl) (by kernel_rfl) (by kernel_rfl) (fun _ _ _ h => h) (Or.inl ⟨by rfl, ?y15g⟩) (by assumption) ?r15g
                  case y15g => (intro w hSw; (try dsimp only at hSw); (try go_split_ands); go_simp); (try with_reducible rfl)
                  case r15g =>
                  (try simp only [Act.put, List.setIfInBounds_toArray, List.set_cons_zero, List.set_cons_succ])
                  refine wpAnyH_take (i := 16) (oi := ⟨some 132, _, _, _, _, _⟩) (v := ?v16g) rfl (by kernel_rfl) (by kernel_rfl) (by kernel_rfl) (fun _ _ _ h => h) (Or.inl ⟨by rfl, ?y16g⟩) (by assumption) ?r16g
                  case y16g => (intro w hSw; (try dsimp only at hSw); (try go_split_ands); go_simp); (try with_reducible rfl)
                  case r16g =>
                  (try simp only [Act.put, List.setIfInBounds_toArray, List.set_cons_zero, List.set_cons_succ])
                  refine wpAnyH_take (i := 17) (oi := ⟨some 133, _, _, _, _, _⟩) (v := ?v17g) rfl (by kernel_rfl) (by kernel_rfl) (by kernel_rfl) (fun _ _ _ h => h) (Or.inl ⟨by rfl, ?y17g⟩) (by assumption) ?r17g
                  case y17g => (intro w hSw; (try dsimp only at hSw); (try go_split_ands); go_simp); (try with_reducible rfl)
                  case r17g =>
                  (try simp only [Act.put, List.setIfInBounds_toArray, List.set_cons_zero, List.set_cons_succ])
                  refine wpAnyH_take (i := 18) (oi := ⟨some 134, _, _, _, _, _⟩) (v := ?v18g) rfl (by kernel_rfl) (by kernel_rfl) (by kernel_rfl) (fun _ _ _ h => h) (Or.inl ⟨by rfl, ?y18g⟩) (by assumption) ?r18g
                  case y18g => (intro w hSw; (try dsimp only at hSw); (try go_split_ands); go_simp); (try with_reducible rfl)
                  case r18g =>
                  (try simp only [Act.put, List.setIfInBounds_toArray, List.set_cons_zero, List.set_cons_succ])
                  refine wpAnyH_take (i := 19) (oi := ⟨some 135, _, _, _, _, _⟩) (v := ?v19g) rfl (by kernel_rfl) (by kernel_rfl) (by kernel_rfl) (fun _ _ _ h => h) (Or.inl ⟨by rfl, ?y19g⟩) (by assumption) ?r19g
                  case y19g => (intro w hSw; (try dsimp only at hSw); (try go_split_ands); go_simp); (try with_reducible rfl)
                  case r19g =>
                  (try simp only [Act.put, List.setIfInBounds_toArray, List.set_cons_zero, List.set_cons_succ])
                  refine wpAnyH_take (i := 20) (oi := ⟨some 136, _, _, _, _, _⟩) (v := .bool false) rfl (by kernel_rfl) (by kernel_rfl) (by kernel_rfl) (fun _ _ _ h => h) (Or.inl ⟨by rfl, ?y20g⟩) (by assumption) ?r20g
                  case y20g => (intro w hSw; (try dsimp only at hSw); (try go_split_ands); go_simp)
                  case r20g =>
                  (try simp only [Act.put, List.setIfInBounds_toArray, List.set_cons_zero, List.set_cons_succ])
                  refine wpAnyH_take (i := 21) (oi := ⟨some 137, _, _, _, _, _⟩) (v := ?v21g) rfl (by kernel_rfl) (by kernel_rfl) (by kernel_rfl) (fun _ _ _ h => h) (Or.inl ⟨by rfl, ?y21g⟩) (by assumption) ?r21g
                  case y21g => (intro w hSw; (try dsimp only at hSw); (try go_split_ands); go_simp); (try with_reducible rfl)
                  case r21g =>
                  (try simp only [Act.put, List.setIfInBounds_toArray, List.set_cons_zero, List.set_cons_succ])
                  refine wpAnyH_done (by kernel_rfl) ?_ _
                  go_wp2_with fail
                  exact ⟨⟨q + 1, hqy, by go_num, HBQ.out.drew⟩, measI hqy⟩
                · obtain rfl : ys.length = q := by omega
                  go_wp2_with fail
                  exact ⟨⟨p + 1, hpt, by go_num, HBQ.out⟩, measI hpt⟩
            · obtain rfl : T.length = p := by omega
              go_wp2_with (first
                | (go_at_call 13; refine (bkKnown _).mono ?_; rintro e w6 ⟨rfl, hb6⟩)
                | fail)
              go_ret
              exact ⟨rfl, (HW3.out.trans (HBP.out.mono HW3.out.size)).trans (hb6.mono (by have := HW3.out.size; omega))⟩
end Go.Proofs.Ytekelnkjigaofaa
