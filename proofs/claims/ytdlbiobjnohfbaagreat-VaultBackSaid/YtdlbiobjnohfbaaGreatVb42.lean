/- vault's law: heavy. vault: what each deed does, as a law's walk takes it. vault's law: two rows of orders, of purses, that are one; bytes as texts. -/
import Derived.Test.YtdlbiobjnohfbaaGreatVb39
namespace Go.Proofs.YtdlbiobjnohfbaaGreat
open Go.RowKit
set_option linter.unusedVariables false
set_option linter.unusedSimpArgs false
set_option maxHeartbeats 4000000 in
set_option maxRecDepth 10000 in
theorem vtHeavy (A : Option Addr) (c : Nat) (xs : List Va) (w : World) (hx : Cells w w.heap.size A xs.length c 13 (xs.flatMap vaV)) :
  Calls Tryz.prog 6 #[.slice A xs.length c] w fun e w' => ∃ b, e = .returned (.bool b) ∧ Below w.heap.size w w' := by
 have HX := Lib.hid hx
 clear hx
 go_enter Tryz.func6, Tryz.ntmps6
 go_wp2_with fail
 go_loopw [3] (fun iv wr => ∃ i : Nat, i ≤ min xs.length 100 ∧ iv = .int .i64 i ∧ Below w.heap.size w wr) (fun iv _ => min xs.length 100 - (intOf iv).toNat)
 case atStart => exact ⟨0, Nat.zero_le _, rfl, by exact tB⟩
 case round =>
  obtain ⟨i, hil, rfl, hBw⟩ := hrel
  have HBW := Lib.hid hBw
  by_cases hlt : i < min xs.length 100
  ·
   have q3 : (i : Int) < (xs.length : Int) := by omega
   have q4 : (i : Int) < 100 := by omega
   obtain ⟨qb, qo, rfl, hqb, hcell⟩ := va_cell HX.out (show i < xs.length by omega)
   have c2 := bkeep hBw (hcell 2 _ (by decide) rfl) hqb
   have c8 := bkeep hBw (hcell 8 _ (by decide) rfl) hqb
   obtain ⟨k1, hk1⟩ : ∃ k, k = xs[i].who := ⟨_, rfl⟩
   obtain ⟨k2, hk2⟩ : ∃ k, k = xs[i].o.who := ⟨_, rfl⟩
   rw [← hk1] at c2
   rw [← hk2] at c8
   clear hBw hk1 hk2 hcell
   by_cases hs : (200 : Int) < (k1.size : Int)
   ·
    go_wp2_with fail
    go_ret
    first | exact ⟨_, rfl, HBW.out⟩ | exact ⟨rfl, HBW.out⟩
   ·
    by_cases hs2 : (200 : Int) < (k2.size : Int)
    ·
     go_wp2_with fail
     go_ret
     first | exact ⟨_, rfl, HBW.out⟩ | exact ⟨rfl, HBW.out⟩ | exact ⟨.inr rfl, HBW.out⟩
    ·
     go_wp2_with fail
     exact ⟨⟨i + 1, hlt, by go_num, HBW.out⟩, by simp [intOf]; omega⟩
  ·
   obtain rfl : min xs.length 100 = i := by omega
   clear hBw
   by_cases q3 : ((min xs.length 100 : Nat) : Int) < (xs.length : Int)
   ·
    have q4 : ¬ ((min xs.length 100 : Nat) : Int) < 100 := by omega
    go_wp2_with fail
    go_ret
    first | exact ⟨_, rfl, HBW.out⟩ | exact ⟨.inl rfl, HBW.out⟩
   ·
    go_wp2_with fail
    go_ret
    first | exact ⟨_, rfl, HBW.out⟩ | exact ⟨.inl rfl, HBW.out⟩
open Go.RowKit Go.ChangeMaps Go.MapKept
def St (w0 w : World) (b : Nat) (l : Pm) (L : List Od) (gone : Int) (D : Nat → Prop) : Prop := ∃ p v last, VtAt w b p v l L last gone ∧ Up w0 w b p v ∧ ∀ q, D q → q < w.heap.size ∧ ¬ Fv b p v q
theorem St.bel {w0 w : World} {b : Nat} {l : Pm} {L : List Od} {gone : Int} {D : Nat → Prop} (h : St w0 w b l L gone D) : Below w0.heap.size w0 w := by
 obtain ⟨p, v, last, _, h, _⟩ := h
 exact h.bel
theorem VtAt.lows {w : World} {b : Nat} {p : Value} {v : Nat → Value} {l : Pm} {L : List Od} {last gone : Int} (h : VtAt w b p v l L last gone) : ∀ x, Fv b p v x → x < w.heap.size := by
 obtain ⟨S, h1, _⟩ := h
 exact h1.lows
theorem St.belowD {w0 w w' : World} {b : Nat} {l : Pm} {L : List Od} {gone : Int} {D D' : Nat → Prop} (h : St w0 w b l L gone D) (hb : Below w.heap.size w w') (hD : ∀ q, D' q → D q ∨ (w.heap.size ≤ q ∧ q < w'.heap.size)) : St w0 w' b l L gone D' := by
 obtain ⟨p, v, last, h1, h2, h3⟩ := h
 refine ⟨p, v, last, h1.below hb, h2.same hb, fun q hq => ?_⟩
 have := hb.size
 rcases hD q hq with h | h
 · exact ⟨by have := (h3 q h).1; omega, (h3 q h).2⟩
 · exact ⟨h.2, fun hf => by have := h1.lows q hf; omega⟩
theorem St.below {w0 w w' : World} {b : Nat} {l : Pm} {L : List Od} {gone : Int} {D : Nat → Prop} (h : St w0 w b l L gone D) (hb : Below w.heap.size w w') : St w0 w' b l L gone D := h.belowD hb (fun q hq => .inl hq)
theorem St.num {w0 w : World} {b : Nat} {l : Pm} {L : List Od} {gone : Int} {D : Nat → Prop} (h : St w0 w b l L gone D) : 0 ≤ gone ∧ gone ≤ 1099511627776 := by
 obtain ⟨p, v, last, ⟨S, _, _, h3, _, h5, h6⟩, _⟩ := h
 have := h3.zero
 omega
theorem St.ok {w0 w : World} {b : Nat} {l : Pm} {L : List Od} {gone : Int} {D : Nat → Prop} (h : St w0 w b l L gone D) : PmOk l ∧ (∃ last, Bk L last) ∧ L.length ≤ 32 := by
 obtain ⟨p, v, last, ⟨S, h1, _, h3, h4, _⟩, _⟩ := h
 exact ⟨h1.ok, ⟨_, h3⟩, h4⟩
def Same (D : Nat → Prop) (w w' : World) : Prop := ∀ q, D q → w'.heap[q]? = w.heap[q]?
theorem Same.whl {D : Nat → Prop} {w w' : World} (h : Same D w w') {q : Nat} (hq : D q) {t : TypeId} {cs : Array Value} (hw : Whl w q t cs) : Whl w' q t cs := (h q hq).trans hw
theorem St.same {w0 w w' : World} {b : Nat} {l : Pm} {L : List Od} {gone : Int} {D : Nat → Prop} (h : St w0 w b l L gone D) (hb : Below w.heap.size w w') : Same D w w' := by
 obtain ⟨p, v, last, _, _, h3⟩ := h
 exact fun q hq => hb.block q (h3 q hq).1
def PutR (l : Pm) (s : ByteArray) (i : It4) (c : Int) (l' : Pm) : Prop :=
 (c ≠ 0 ∧ l' = l) ∨ (c = 0 ∧ mayB s i = true ∧ l' = setP l s.data.toList (addI (hasP l s.data.toList) i))
def TakeR (l : Pm) (s : ByteArray) (i : It4) (c : Int) (l' : Pm) : Prop :=
 (c ≠ 0 ∧ l' = l) ∨ (c = 0 ∧ mayB s i = true ∧ l' = setP l s.data.toList (subI (hasP l s.data.toList) i))
def OrdR (l : Pm) (L : List Od) (gone : Int) (o : Od) (n c : Int) (l' : Pm) (L' : List Od) (gone' : Int) : Prop :=
 (c ≠ 0 ∧ n = 0 ∧ l' = l ∧ L' = L ∧ gone' = gone) ∨
 (c = 0 ∧ n = gone + 1 ∧ gone' = gone + 1 ∧ OkO (o.num 1) ∧ lessI (hasP l o.who.data.toList) (heldP o) = false ∧ ∃ T o1 L1, Places (o.num (gone + 1)) L T o1 L1 ∧
  l' = T.foldl settleP (setP l o.who.data.toList (subI (hasP l o.who.data.toList) (heldP o))) ∧ L' = laid o1 L1)
def CanR (l : Pm) (L : List Od) (s : ByteArray) (id : Int) (c : Int) (l' : Pm) (L' : List Od) : Prop :=
 (c ≠ 0 ∧ l' = l ∧ L' = L) ∨ (c = 0 ∧ ∃ x ∈ L, x.id = id ∧ x.who = s ∧ l' = gainsP l s (heldP x) 4 ∧ L' = goneO id L)
theorem PutR.nms {N : List By} {l : Pm} {L : List Od} {s : ByteArray} {i : It4} {c : Int} {l' : Pm} (h : PutR l s i c l') (hn : Nms N l L) : Nms (s.data.toList :: N) l' L := by
 rcases h with ⟨_, rfl⟩ | ⟨_, _, rfl⟩
 · exact hn.more _
 · exact hn.set _ _
theorem TakeR.nms {N : List By} {l : Pm} {L : List Od} {s : ByteArray} {i : It4} {c : Int} {l' : Pm} (h : TakeR l s i c l') (hn : Nms N l L) : Nms (s.data.toList :: N) l' L := by
 rcases h with ⟨_, rfl⟩ | ⟨_, _, rfl⟩
 · exact hn.more _
 · exact hn.set _ _
theorem OrdR.nms {N : List By} {l : Pm} {L : List Od} {gone : Int} {o : Od} {n c : Int} {l' : Pm} {L' : List Od} {gone' : Int} (h : OrdR l L gone o n c l' L' gone') (hn : Nms N l L) : Nms (o.who.data.toList :: N) l' L' := by
 rcases h with ⟨_, _, rfl, rfl, _⟩ | ⟨_, _, _, _, _, T, o1, L1, hp, rfl, rfl⟩
 · exact hn.more _
 · exact Nms.order (o := o.num (gone + 1)) hn hp
theorem CanR.nms {N : List By} {l : Pm} {L : List Od} {s : ByteArray} {id c : Int} {l' : Pm} {L' : List Od} (h : CanR l L s id c l' L') (hn : Nms N l L) : Nms (s.data.toList :: N) l' L' := by
 rcases h with ⟨_, rfl, rfl⟩ | ⟨_, x, _, _, _, rfl, rfl⟩
 · exact hn.more _
 · exact hn.cancel _ _ _
theorem own_casesV {w : World} {base : Nat} {v : Value} {xs : List Nat} (h : w.ownsRow base 5 1 v xs.length (flatU xs)) : (v = .slice none 0 0 ∧ xs = []) ∨ ∃ g cap, v = .slice (some ⟨g, 0, none⟩) xs.length cap := by
 rcases h.2 with ⟨hv, h0⟩ | ⟨g, cap, cur, hv, _⟩
 · exact .inl ⟨hv, List.eq_nil_of_length_eq_zero h0⟩
 · exact .inr ⟨g, cap, hv⟩
theorem conv_ownV {w : World} {base : Nat} {v : Value} {xs : List Nat} (h : w.ownsRow base 5 1 v xs.length (flatU xs)) : (convert 33 9 v).run Tryz.prog w = .ok (.string (strU xs)) w := by
 rcases own_casesV h with ⟨rfl, rfl⟩ | ⟨g, cap, rfl⟩
 · exact run_convert_bytes_nil w _ _ Tryz.underlying33 Tryz.underlying5 0 0 _ Tryz.underlying9
 ·
  refine run_convert_bytes_arg w _ _ Tryz.underlying33 Tryz.underlying5 g 0 _ cap _ (by simp) (fun i hi => ?_) _ Tryz.underlying9
  have := h.cells (g := g) rfl i (.int .u8 (xs[i] : Nat)) (by simp [flatU, hi])
  rw [add_none] at this
  rw [this]
  simp [List.getD, hi]
theorem own_cellsV {w : World} {base e size n c : Nat} {A : Option Addr} {xs : List Value} (h : w.ownsRow base e size (.slice A n c) n xs) : Cells w w.heap.size A n c size xs := by
 obtain ⟨A2, c2, e2, _, _, h2⟩ := row_cells h
 injection e2 with e3 e4 e5
 subst e3 e5
 exact h2
theorem measW {j L : Nat} (h : j < L) : L - (intOf (.int .i64 ((j : Int) + 1))).toNat < L - (intOf (.int .i64 (j : Int))).toNat := by simp [intOf]; omega
theorem b_drewW {a w : World} {b n : Nat} (h : Below b a w) : Below b a (w.drewN n) := b_drewN h
set_option maxHeartbeats 4000000 in
set_option maxRecDepth 100000 in
theorem odNeqV (y : Od) (w : World) : (binOp .neq 38 (.agg #[.int .i64 y.id, .string y.who, .bool y.buy, .int .i64 y.item, .int .i64 y.ct, .int .i64 y.pr]) (.agg #[.int .i64 y.id, .string y.who, .bool y.buy, .int .i64 y.item, .int .i64 y.ct, .int .i64 y.pr])).run Tryz.prog w = .ok (.bool false) w := by
 go_simp
set_option maxHeartbeats 4000000 in
set_option maxRecDepth 100000 in
theorem itEqV (a b c d : Int) (w : World) : (binOp .eql 36 (.agg #[.int .i64 a, .int .i64 b, .int .i64 c, .int .i64 d]) (.agg #[.int .i64 a, .int .i64 b, .int .i64 c, .int .i64 d])).run Tryz.prog w = .ok (.bool true) w := by
 go_simp
set_option maxHeartbeats 4000000 in
set_option maxRecDepth 100000 in
theorem hdNeqV (s : ByteArray) (a b c d : Int) (w : World) : (binOp .neq 85 (.agg #[.string s, .int .i64 a, .int .i64 b, .int .i64 c, .int .i64 d]) (.agg #[.string s, .int .i64 a, .int .i64 b, .int .i64 c, .int .i64 d])).run Tryz.prog w = .ok (.bool false) w := by
 have hi : ∀ w, (Op.equalIn 9999 36 (.agg #[.int .i64 a, .int .i64 b, .int .i64 c, .int .i64 d]) (.agg #[.int .i64 a, .int .i64 b, .int .i64 c, .int .i64 d])).run Tryz.prog w = .ok true w := fun w => by have := eqItemsAt w 9997 a b c d a b c d; simpa using this
 go_simp
theorem stEqV (s : ByteArray) (w : World) : (binOp .eql 9 (.string s) (.string s)).run Tryz.prog w = .ok (.bool true) w := by
 go_simp
theorem boEqV (s : Bool) (w : World) : (binOp .eql 4 (.bool s) (.bool s)).run Tryz.prog w = .ok (.bool true) w := by
 cases s <;> go_simp
theorem cells_odV {w : World} {B c : Nat} {A : Option Addr} {L : List Od} (h : Cells w B A L.length c 6 (flatO L)) {j : Nat} (hj : j < L.length) :
  ∃ b o, A = some ⟨b, o, none⟩ ∧ b < B ∧ w.cell? ⟨b, o + j * 6, none⟩ = some (.int .i64 L[j].id) ∧ w.cell? ⟨b, o + j * 6 + 1, none⟩ = some (.string L[j].who) ∧ w.cell? ⟨b, o + j * 6 + 2, none⟩ = some (.bool L[j].buy) ∧ w.cell? ⟨b, o + j * 6 + 3, none⟩ = some (.int .i64 L[j].item) ∧ w.cell? ⟨b, o + j * 6 + 4, none⟩ = some (.int .i64 L[j].ct) ∧ w.cell? ⟨b, o + j * 6 + 5, none⟩ = some (.int .i64 L[j].pr) := by
 obtain ⟨r0, r1, r2, r3, r4, r5⟩ := flatO_at L j hj
 obtain ⟨b, o, e, hb, h0⟩ := h.2.2 _ _ r0
 have key : ∀ k v, (flatO L)[j * 6 + k]? = some v → w.cell? ⟨b, o + j * 6 + k, none⟩ = some v := fun k v hv => by
  obtain ⟨b1, o1, e1, _, h1⟩ := h.2.2 _ _ hv
  rw [e] at e1
  injection e1 with e1
  injection e1 with e2 e3
  subst e2 e3
  rw [Nat.add_assoc]; exact h1
 exact ⟨b, o, e, hb, h0, key 1 _ r1, key 2 _ r2, key 3 _ r3, key 4 _ r4, key 5 _ r5⟩
theorem cells_hdV {w : World} {B c : Nat} {A : Option Addr} {L : List Hd} (h : Cells w B A L.length c 5 (flatH L)) {j : Nat} (hj : j < L.length) :
  ∃ b o, A = some ⟨b, o, none⟩ ∧ b < B ∧ w.cell? ⟨b, o + j * 5, none⟩ = some (encB L[j].1) ∧ w.cell? ⟨b, o + j * 5 + 1, none⟩ = some (.int .i64 L[j].2.1) ∧ w.cell? ⟨b, o + j * 5 + 2, none⟩ = some (.int .i64 L[j].2.2.1) ∧ w.cell? ⟨b, o + j * 5 + 3, none⟩ = some (.int .i64 L[j].2.2.2.1) ∧ w.cell? ⟨b, o + j * 5 + 4, none⟩ = some (.int .i64 L[j].2.2.2.2) := by
 obtain ⟨r0, r1, r2, r3, r4⟩ := flatH_at L j hj
 obtain ⟨b, o, e, hb, h0⟩ := h.2.2 _ _ r0
 have key : ∀ k v, (flatH L)[j * 5 + k]? = some v → w.cell? ⟨b, o + j * 5 + k, none⟩ = some v := fun k v hv => by
  obtain ⟨b1, o1, e1, _, h1⟩ := h.2.2 _ _ hv
  rw [e] at e1
  injection e1 with e1
  injection e1 with e2 e3
  subst e2 e3
  rw [Nat.add_assoc]; exact h1
 exact ⟨b, o, e, hb, h0, key 1 _ r1, key 2 _ r2, key 3 _ r3, key 4 _ r4⟩
set_option maxHeartbeats 4000000 in
set_option maxRecDepth 10000 in
theorem lwOrders (A A' : Option Addr) (c c' : Nat) (L : List Od) (w : World) (h : Cells w w.heap.size A L.length c 6 (flatO L)) (h' : Cells w w.heap.size A' L.length c' 6 (flatO L)) (hl : L.length ≤ 1000) :
  Calls Tryz.prog 29 #[.slice A L.length c, .slice A' L.length c'] w fun e w' => e = .returned (.bool true) ∧ Below w.heap.size w w' := by
 have HA := Lib.hid h
 have HA' := Lib.hid h'
 clear h h'
 go_enter Tryz.func29, Tryz.ntmps29
 go_wp2_with fail
 go_loopw [5] (fun iv wr => ∃ i : Nat, i ≤ L.length ∧ iv = .int .i64 i ∧ Below w.heap.size w wr) (fun iv _ => L.length - (intOf iv).toNat)
 case atStart => exact ⟨0, Nat.zero_le _, rfl, Below.refl _ _⟩
 case round =>
  obtain ⟨i, hil, rfl, hBw⟩ := hrel
  have HBW := Lib.hid hBw
  by_cases hlt : i < L.length
  ·
   have q3 : (i : Int) < (L.length : Int) := by omega
   obtain ⟨b, o, rfl, hb, a0, a1, a2, a3, a4, a5⟩ := cells_odV HA.out hlt
   obtain ⟨b', o', rfl, hb', z0, z1, z2, z3, z4, z5⟩ := cells_odV HA'.out hlt
   have a0 := bkeep hBw a0 hb
   have z0 := bkeep hBw z0 hb'
   have a1 := bkeep hBw a1 hb
   have z1 := bkeep hBw z1 hb'
   have a2 := bkeep hBw a2 hb
   have z2 := bkeep hBw z2 hb'
   have a3 := bkeep hBw a3 hb
   have z3 := bkeep hBw z3 hb'
   have a4 := bkeep hBw a4 hb
   have z4 := bkeep hBw z4 hb'
   have a5 := bkeep hBw a5 hb
   have z5 := bkeep hBw z5 hb'
   obtain ⟨y, hy⟩ : ∃ y, y = L[i] := ⟨_, rfl⟩
   rw [← hy] at a0 a1 a2 a3 a4 a5 z0 z1 z2 z3 z4 z5
   have hne := odNeqV y
   clear hBw hy
   go_wp2_with fail
   go_quiet (fail)
   go_wp2_with fail
   exact ⟨⟨i + 1, hlt, by go_num, b_drewW HBW.out⟩, measW hlt⟩
  ·
   obtain rfl : L.length = i := by omega
   go_wp2_with fail
   go_ret
   exact ⟨rfl, HBW.out⟩
set_option maxHeartbeats 4000000 in
set_option maxRecDepth 10000 in
theorem lwHoldings (A A' : Option Addr) (c c' : Nat) (L : List Hd) (w : World) (h : Cells w w.heap.size A L.length c 5 (flatH L)) (h' : Cells w w.heap.size A' L.length c' 5 (flatH L)) (hl : L.length ≤ 1000) :
  Calls Tryz.prog 28 #[.slice A L.length c, .slice A' L.length c'] w fun e w' => e = .returned (.bool true) ∧ Below w.heap.size w w' := by
 have HA := Lib.hid h
 have HA' := Lib.hid h'
 clear h h'
 go_enter Tryz.func28, Tryz.ntmps28
 go_wp2_with fail
 go_loopw [5] (fun iv wr => ∃ i : Nat, i ≤ L.length ∧ iv = .int .i64 i ∧ Below w.heap.size w wr) (fun iv _ => L.length - (intOf iv).toNat)
 case atStart => exact ⟨0, Nat.zero_le _, rfl, Below.refl _ _⟩
 case round =>
  obtain ⟨i, hil, rfl, hBw⟩ := hrel
  have HBW := Lib.hid hBw
  by_cases hlt : i < L.length
  ·
   have q3 : (i : Int) < (L.length : Int) := by omega
   obtain ⟨b, o, rfl, hb, a0, a1, a2, a3, a4⟩ := cells_hdV HA.out hlt
   obtain ⟨b', o', rfl, hb', z0, z1, z2, z3, z4⟩ := cells_hdV HA'.out hlt
   have a0 := bkeep hBw a0 hb
   have z0 := bkeep hBw z0 hb'
   have a1 := bkeep hBw a1 hb
   have z1 := bkeep hBw z1 hb'
   have a2 := bkeep hBw a2 hb
   have z2 := bkeep hBw z2 hb'
   have a3 := bkeep hBw a3 hb
   have z3 := bkeep hBw z3 hb'
   have a4 := bkeep hBw a4 hb
   have z4 := bkeep hBw z4 hb'
   obtain ⟨y, hy⟩ : ∃ y, y = L[i] := ⟨_, rfl⟩
   rw [← hy] at a0 a1 a2 a3 a4 z0 z1 z2 z3 z4
   obtain ⟨s, hs⟩ : ∃ s : ByteArray, s = ⟨y.1.toArray⟩ := ⟨_, rfl⟩
   have hes : encB y.1 = .string s := by rw [hs]; rfl
   rw [hes] at a0 z0
   have hne := hdNeqV s y.2.1 y.2.2.1 y.2.2.2.1 y.2.2.2.2
   clear hs hes
   clear hBw hy
   go_wp2_with fail
   go_quiet (fail)
   go_wp2_with fail
   exact ⟨⟨i + 1, hlt, by go_num, b_drewW HBW.out⟩, measW hlt⟩
  ·
   obtain rfl : L.length = i := by omega
   go_wp2_with fail
   go_ret
   exact ⟨rfl, HBW.out⟩
end Go.Proofs.YtdlbiobjnohfbaaGreat
