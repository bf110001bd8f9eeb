/- Vaults: purses as a map; a vault in memory. vault: Has, may, set, held. Two purses are equal where their four numbers are. -/
import Derived.Test.YtdlbiobjnohfbaaGreatVb10
import Derived.Test.YtdlbiobjnohfbaaGreatVb11
namespace Go.Proofs.YtdlbiobjnohfbaaGreat
open Go.RowKit Go.ChangeMaps Go.MapKept
set_option linter.unusedVariables false
set_option linter.unusedSimpArgs false
abbrev By := List UInt8
def encB (l : By) : Value := .string ⟨l.toArray⟩
theorem bytes_dataB (s : ByteArray) : encB s.data.toList = .string s := by
 cases s; simp [encB]
theorem findNow_by (a : By) : ∀ (es : List MapEntry) (l : List (By × Value)) (i : Nat), es.map (fun e => (e.key, e.val)) = l.map (fun p => (encB p.1, p.2)) → Instr.findNow .string (encB a) es i = some (find1 a l i)
 | [], [], i, h => rfl
 | [], _ :: _, i, h => by simp at h
 | _ :: _, [], i, h => by simp at h
 | e :: r, (x, v) :: l, i, h => by
  simp only [List.map_cons, List.cons.injEq, Prod.mk.injEq] at h
  obtain ⟨⟨h1, h2⟩, h3⟩ := h
  simp only [Instr.findNow, h1, encB, Instr.sameNow, find1, h2]
  by_cases hx : x = a
  · subst hx; rw [if_pos rfl, (bytes_beq ⟨x.toArray⟩ ⟨x.toArray⟩).2 rfl]
  ·
   have : ((⟨a.toArray⟩ : ByteArray) == ⟨x.toArray⟩) = false := by
    cases hb : ((⟨a.toArray⟩ : ByteArray) == ⟨x.toArray⟩) with
    | false => rfl
    | true =>
     have := (bytes_beq _ _).1 hb
     injection this with this
     exact absurd (by simpa using this.symm) hx
   rw [this, if_neg hx]
   exact findNow_by a r l (i + 1) h3
theorem by_key {P : Program} {kt : TypeId} (hk : P.underlying kt = some .string) : KeyT P kt encB where
 check e a w := run_checkKey hk (by simp [encB, IsKey]) e 9999
 find es l a w h := by
  unfold Instr.findKey
  simp only [Sem.run_bind, run_underlying hk w, Result.andThen_ok, findNow_by a es l 0 h]
  rfl
 stays a w := run_keyThatStays (d := .string) (by simp [encB, IsKey])
theorem kB : KeyT Tryz.prog 9 encB := by_key Tryz.underlying9
abbrev It4 := Int × Int × Int × Int
def z4 : It4 := (0, 0, 0, 0)
def itV (i : It4) : Value := .agg #[.int .i64 i.1, .int .i64 i.2.1, .int .i64 i.2.2.1, .int .i64 i.2.2.2]
abbrev Pm := List (By × It4)
def vPm (l : Pm) : List (By × Value) := l.map fun p => (p.1, itV p.2)
def hasP (l : Pm) (k : By) : It4 := (get1 k l).getD z4
def setP (l : Pm) (k : By) (i : It4) : Pm := if i = z4 then del1 k l else put1 k i l
theorem get_vPm (k : By) (l : Pm) : (get1 k (vPm l)).getD (itV z4) = itV (hasP l k) := by
 unfold vPm hasP; rw [get1_map itV]; cases get1 k l <;> rfl
theorem put_vPm (k : By) (i : It4) (l : Pm) : put1 k (itV i) (vPm l) = vPm (put1 k i l) := by
 unfold vPm; rw [put1_map itV]
theorem del_vPm (k : By) (l : Pm) : del1 k (vPm l) = vPm (del1 k l) := by
 unfold vPm; rw [del1_map itV]
theorem put1_mem {α β : Type} [DecidableEq α] {k : α} {v : β} : ∀ {l : List (α × β)}, ∀ p ∈ put1 k v l, p = (k, v) ∨ p ∈ l
 | [], p, h => by simp [put1] at h; exact .inl h
 | (a, x) :: r, p, h => by
  simp only [put1] at h
  split at h
  ·
   rename_i e; subst e
   rcases List.mem_cons.1 h with h | h
   · exact .inl h
   · exact .inr (List.mem_cons_of_mem _ h)
  ·
   rcases List.mem_cons.1 h with h | h
   · exact .inr (by rw [h]; exact List.mem_cons_self)
   ·
    rcases put1_mem p h with h | h
    · exact .inl h
    · exact .inr (List.mem_cons_of_mem _ h)
theorem put1_nodup {α β : Type} [DecidableEq α] {k : α} {v : β} : ∀ {l : List (α × β)}, (l.map (·.1)).Nodup → ((put1 k v l).map (·.1)).Nodup
 | [], h => by simp [put1]
 | (a, x) :: r, h => by
  simp only [put1]
  split
  · exact h
  ·
   rename_i hn
   simp only [List.map_cons, List.nodup_cons] at h ⊢
   refine ⟨fun hm => ?_, put1_nodup h.2⟩
   obtain ⟨p, hp, e⟩ := List.mem_map.1 hm
   rcases put1_mem p hp with h1 | h1
   · rw [h1] at e; exact hn e.symm
   · exact h.1 (List.mem_map.2 ⟨p, h1, e⟩)
theorem setP_nodup {l : Pm} (h : (l.map (·.1)).Nodup) (k : By) (i : It4) : ((setP l k i).map (·.1)).Nodup := by
 unfold setP; split
 · exact del1_nodup h
 · exact put1_nodup h
theorem has_set {l : Pm} (h : (l.map (·.1)).Nodup) (k j : By) (i : It4) : hasP (setP l k i) j = if k = j then i else hasP l j := by
 unfold hasP setP
 split
 ·
  rename_i e; subst e
  rw [get1_del1 k j h]
  split <;> rfl
 ·
  rw [get1_put1]
  split <;> rfl
def isI (i : It4) : Bool := isP i.1 i.2.1 i.2.2.1 i.2.2.2
def KeyOk (k : By) : Prop := 1 ≤ k.length ∧ k.length ≤ 16
def PmOk (l : Pm) : Prop := (l.map (·.1)).Nodup ∧ ∀ p ∈ l, p.2 ≠ z4 ∧ isI p.2 = true ∧ KeyOk p.1
theorem PmOk.nil : PmOk [] := ⟨List.nodup_nil, by simp⟩
theorem PmOk.set {l : Pm} (h : PmOk l) {k : By} (hk : KeyOk k) {i : It4} (hi : isI i = true) : PmOk (setP l k i) := by
 refine ⟨setP_nodup h.1 k i, fun p hp => ?_⟩
 unfold setP at hp
 split at hp
 · exact h.2 p (del1_keys p hp)
 ·
  rename_i hn
  rcases put1_mem p hp with e | e
  · rw [e]; exact ⟨hn, hi, hk⟩
  · exact h.2 p e
theorem PmOk.has {l : Pm} (h : PmOk l) (k : By) : isI (hasP l k) = true := by
 unfold hasP
 cases hg : get1 k l with
 | none => rfl
 | some v => exact (h.2 _ (get1_mem hg)).2.1
def PuH (w : World) (p : Value) (l : Pm) : Prop := (p = .map none ∧ l = []) ∨ ∃ m, p = .map (some m) ∧ MapOf encB w m (vPm l)
def mb : Value → Option Nat
 | .map (some m) => some m
 | _ => none
structure VtH (w : World) (b : Nat) (p : Value) (v : Nat → Value) (S : Nat → List Od) (l : Pm) (last gone : Int) : Prop where
 bk : BkH (lay1 p (.int .i64 gone)) w b v S last
 pu : PuH w p l
 ok : PmOk l
 ne : mb p ≠ some b
 apart : ∀ i, i < 8 → ∀ x, (v i).ownBlock = some x → mb p ≠ some x
def Fv (b : Nat) (p : Value) (v : Nat → Value) (x : Nat) : Prop := Ft b v x ∨ mb p = some x
theorem VtH.cell {w : World} {b : Nat} {p : Value} {v : Nat → Value} {S : Nat → List Od} {l : Pm} {last gone : Int} (h : VtH w b p v S l last gone) : w.cell? ⟨b, 0, none⟩ = some p := h.bk.whl.cell 0
theorem VtH.cellG {w : World} {b : Nat} {p : Value} {v : Nat → Value} {S : Nat → List Od} {l : Pm} {last gone : Int} (h : VtH w b p v S l last gone) : w.cell? ⟨b, 10, none⟩ = some (.int .i64 gone) := h.bk.whl.cell 10
theorem PuH.lows {w : World} {p : Value} {l : Pm} (h : PuH w p l) : ∀ x, mb p = some x → x < w.heap.size := by
 rcases h with ⟨rfl, _⟩ | ⟨m, rfl, h⟩
 · intro x hx; cases hx
 · intro x hx; simp only [mb, Option.some.injEq] at hx; subst hx; exact h.lt
theorem PuH.keep {D : Nat → Prop} {w w' : World} {p : Value} {l : Pm} (h : PuH w p l) (ht : Touch D w w') (hD : ∀ x, mb p = some x → ¬ D x) : PuH w' p l := by
 rcases h with h | ⟨m, rfl, h⟩
 · exact .inl h
 · exact .inr ⟨m, rfl, h.block (ht.block m h.lt (hD m rfl))⟩
theorem VtH.lows {w : World} {b : Nat} {p : Value} {v : Nat → Value} {S : Nat → List Od} {l : Pm} {last gone : Int} (h : VtH w b p v S l last gone) : ∀ x, Fv b p v x → x < w.heap.size := by
 rintro x (hx | hx)
 · exact h.bk.lows x hx
 · exact h.pu.lows x hx
theorem VtH.keep {D : Nat → Prop} {w w' : World} {b : Nat} {p : Value} {v : Nat → Value} {S : Nat → List Od} {l : Pm} {last gone : Int} (h : VtH w b p v S l last gone) (ht : Touch D w w') (hD : ∀ x, Fv b p v x → ¬ D x) : VtH w' b p v S l last gone :=
 ⟨h.bk.keep ht (fun x hx => hD x (.inl hx)), h.pu.keep ht (fun x hx => hD x (.inr hx)), h.ok, h.ne, h.apart⟩
theorem VtH.below {w w' : World} {b : Nat} {p : Value} {v : Nat → Value} {S : Nat → List Od} {l : Pm} {last gone : Int} (h : VtH w b p v S l last gone) (hb : Below w.heap.size w w') : VtH w' b p v S l last gone :=
 h.keep (Touch.of_below hb) (fun x hx hd => by have := h.lows x hx; omega)
theorem VtH.other {w w' : World} {b : Nat} {p p' : Value} {v : Nat → Value} {S : Nat → List Od} {l l' : Pm} {last gone : Int} (h : VtH w b p v S l last gone)
  (ht : Touch (fun x => x = b ∨ mb p = some x) w w') (hw : Whl w' b 80 ((lay1 p' (.int .i64 gone)).C v last)) (hp : PuH w' p' l') (hok : PmOk l') (hn : mb p' = mb p ∨ ∀ x, mb p' = some x → w.heap.size ≤ x) :
  VtH w' b p' v S l' last gone ∧ Touch (Fv b p v) w w' ∧ (∀ x, Fv b p' v x → Fv b p v x ∨ w.heap.size ≤ x) := by
 have hlow := h.lows
 refine ⟨⟨⟨hw, fun i hi => ht.own (h.bk.own i hi) ?_, h.bk.far, h.bk.apart⟩, hp, hok, fun e => ?_, fun i hi x hx e => ?_⟩, ht.mono ?_, ?_⟩
 ·
  rintro g hg (rfl | hx)
  · exact h.bk.far i hi hg
  · exact h.apart i hi g hg hx
 ·
  rcases hn with e' | e'
  · exact h.ne (e' ▸ e)
  · have := e' b e; have := hlow b (.inl (.inl rfl)); omega
 ·
  rcases hn with e' | e'
  · exact h.apart i hi x hx (e' ▸ e)
  · have := e' x e; have := hlow x (.inl (.inr ⟨i, hi, hx⟩)); omega
 ·
  rintro x (rfl | hx)
  · exact .inl (.inl rfl)
  · exact .inr hx
 ·
  rintro x (hx | hx)
  · exact .inl (.inl hx)
  ·
   rcases hn with e' | e'
   · exact .inl (.inr (e' ▸ hx))
   · exact .inr (e' x hx)
theorem zIt : ∀ w, (zeroValue 36).run Tryz.prog w = .ok (itV z4) w := fun _ => by kernel_rfl
theorem PuH.look {w : World} {p : Value} {l : Pm} (h : PuH w p l) (s : ByteArray) : (Instr.lookup 74 p (.string s) false).run Tryz.prog w = .ok (itV (hasP l s.data.toList)) w := by
 rcases h with ⟨rfl, rfl⟩ | ⟨m, rfl, h⟩
 ·
  have := look_nil (w := w) kB Tryz.underlying74 (zIt w) s.data.toList
  rw [bytes_dataB] at this
  exact this
 ·
  have := h.look kB Tryz.underlying74 (zIt w) s.data.toList
  rw [bytes_dataB, get_vPm] at this
  exact this
set_option maxHeartbeats 2000000 in
set_option maxRecDepth 10000 in
theorem vtHas (b : Nat) (p : Value) (l : Pm) (s : ByteArray) (w : World) (hb : b < w.heap.size) (hc : w.cell? ⟨b, 0, none⟩ = some p) (hp : PuH w p l) :
  Calls Tryz.prog 23 #[.pointer (some ⟨b, 0, none⟩), .string s] w fun e w' => e = .returned (itV (hasP l s.data.toList)) ∧ Below w.heap.size w w' := by
 have hB : Below w.heap.size w (w.alloc (.cells #[.int .i64 0, .int .i64 0, .int .i64 0, .int .i64 0] 36)) := (Below.refl _ _).alloc (Nat.le_refl _) _
 have hl := (hp.keep (Touch.of_below hB) (fun x hx hd => by have := hp.lows x hx; omega)).look s
 obtain ⟨r, hr⟩ : ∃ r, r = hasP l s.data.toList := ⟨_, rfl⟩
 rw [← hr] at hl ⊢
 obtain ⟨r0, r1, r2, r3⟩ := r
 simp only [itV] at hl ⊢
 clear hr hp hB
 go_enter Tryz.func23, Tryz.ntmps23
 go_wp2_with fail
 refine bodyPost_ret (v := .agg #[.int .i64 r0, .int .i64 r1, .int .i64 r2, .int .i64 r3]) (by simp [results, Tryz.results23, go_sem, ↓IntWalk.iteOmega, *]) rfl ⟨rfl, by exact tB⟩
set_option maxHeartbeats 2000000 in
set_option maxRecDepth 10000 in
theorem vtMay (b : Nat) (s : ByteArray) (i : It4) (w : World) :
  Calls Tryz.prog 57 #[.pointer (some ⟨b, 0, none⟩), .string s, itV i] w fun e w' => e = .returned (.bool (decide (1 ≤ s.size) && (decide (s.size ≤ 16) && isP i.1 i.2.1 i.2.2.1 i.2.2.2))) ∧ Below w.heap.size w w' := by
 obtain ⟨r0, r1, r2, r3⟩ := i
 simp only [itV]
 by_cases h1 : 1 ≤ s.size
 ·
  by_cases h2 : s.size ≤ 16
  ·
   have k1 : (1 : Int) ≤ (s.size : Int) := by omega
   have k2 : (s.size : Int) ≤ 16 := by omega
   go_enter Tryz.func57, Tryz.ntmps57
   go_wp2_with (first
    | (go_at_call 93; refine (purseIs r0 r1 r2 r3 _).mono ?_; rintro e w3 ⟨rfl, hb3⟩)
    | fail)
   refine bodyPost_ret (v := .bool (isP r0 r1 r2 r3)) (by simp [results, Tryz.results57, go_sem]) rfl ⟨by simp [h1, h2], by exact tB⟩
  ·
   have k1 : (1 : Int) ≤ (s.size : Int) := by omega
   have k2 : ¬ (s.size : Int) ≤ 16 := by omega
   go_enter Tryz.func57, Tryz.ntmps57
   go_wp2_with fail
   refine bodyPost_ret (v := .bool false) (by simp [results, Tryz.results57, go_sem]) rfl ⟨by simp [h2], by exact tB⟩
 ·
  have k1 : ¬ (1 : Int) ≤ (s.size : Int) := by omega
  go_enter Tryz.func57, Tryz.ntmps57
  go_wp2_with fail
  refine bodyPost_ret (v := .bool false) (by simp [results, Tryz.results57, go_sem]) rfl ⟨by simp [h1], by exact tB⟩
def heldP (o : Od) : It4 := if o.buy then (o.ct * o.pr, 0, 0, 0) else if o.item = 1 then (0, o.ct, 0, 0) else if o.item = 2 then (0, 0, o.ct, 0) else if o.item = 3 then (0, 0, 0, o.ct) else (o.ct, 0, 0, 0)
set_option maxHeartbeats 2000000 in
set_option maxRecDepth 10000 in
theorem vtHeldB (o : Od) (w : World) (hb : o.buy = true) (hc : 0 ≤ o.ct ∧ o.ct ≤ 1048576) (hp : 0 ≤ o.pr ∧ o.pr ≤ 1024) :
  Calls Tryz.prog 42 #[odA o] w fun e w' => e = .returned (itV (heldP o)) ∧ Below w.heap.size w w' := by
 have hm : IntKind.i64.wrap (o.ct * o.pr) = o.ct * o.pr := by
  obtain ⟨n, hn⟩ : ∃ n, n = o.ct * o.pr := ⟨_, rfl⟩
  have h1 : 0 ≤ n := by rw [hn]; exact Int.mul_nonneg hc.1 hp.1
  have h2 : n ≤ 1048576 * 1024 := by rw [hn]; exact Int.mul_le_mul hc.2 hp.2 hp.1 (by omega)
  rw [← hn]; rw [IntKind.wrap_i64]; omega
 have hh : heldP o = (o.ct * o.pr, 0, 0, 0) := by unfold heldP; rw [if_pos hb]
 rw [hh]
 unfold odA itV
 rw [hb]
 go_enter Tryz.func42, Tryz.ntmps42
 go_wp2_with fail
 refine bodyPost_ret (v := .agg #[.int .i64 (o.ct * o.pr), .int .i64 0, .int .i64 0, .int .i64 0]) (by simp [results, Tryz.results42, go_sem, ↓IntWalk.iteOmega, *]) rfl ⟨rfl, by exact tB⟩
set_option maxHeartbeats 2000000 in
set_option maxRecDepth 10000 in
theorem vtHeldS (o : Od) (w : World) (hb : o.buy = false) (hi : 1 ≤ o.item ∧ o.item ≤ 3) :
  Calls Tryz.prog 42 #[odA o] w fun e w' => e = .returned (itV (heldP o)) ∧ Below w.heap.size w w' := by
 unfold heldP
 rw [if_neg (by rw [hb]; decide)]
 rcases (show o.item = 1 ∨ o.item = 2 ∨ o.item = 3 by omega) with h | h | h
 ·
  rw [if_pos h]
  unfold odA itV
  rw [hb, h]
  go_enter Tryz.func42, Tryz.ntmps42
  go_wp2_with fail
  refine bodyPost_ret (v := .agg #[.int .i64 0, .int .i64 o.ct, .int .i64 0, .int .i64 0]) (by simp [results, Tryz.results42, go_sem, ↓IntWalk.iteOmega, *]) rfl ⟨rfl, by exact tB⟩
 ·
  rw [if_neg (by omega), if_pos h]
  unfold odA itV
  rw [hb, h]
  go_enter Tryz.func42, Tryz.ntmps42
  go_wp2_with fail
  refine bodyPost_ret (v := .agg #[.int .i64 0, .int .i64 0, .int .i64 o.ct, .int .i64 0]) (by simp [results, Tryz.results42, go_sem, ↓IntWalk.iteOmega, *]) rfl ⟨rfl, by exact tB⟩
 ·
  rw [if_neg (by omega), if_neg (by omega), if_pos h]
  unfold odA itV
  rw [hb, h]
  go_enter Tryz.func42, Tryz.ntmps42
  go_wp2_with fail
  refine bodyPost_ret (v := .agg #[.int .i64 0, .int .i64 0, .int .i64 0, .int .i64 o.ct]) (by simp [results, Tryz.results42, go_sem, ↓IntWalk.iteOmega, *]) rfl ⟨rfl, by exact tB⟩
theorem vtHeld (o : Od) (w : World) (h : OkO o) : Calls Tryz.prog 42 #[odA o] w fun e w' => e = .returned (itV (heldP o)) ∧ Below w.heap.size w w' := by
 cases hb : o.buy with
 | true => exact vtHeldB o w hb (by have := h.ct; omega) (by have := h.pr; omega)
 | false => exact vtHeldS o w hb h.item
end Go.Proofs.YtdlbiobjnohfbaaGreat
namespace Go.Proofs.YtdlbiobjnohfbaaGreat
open Go.RowKit
set_option linter.unusedVariables false
set_option linter.unusedSimpArgs false
theorem eqItemsAt (w : World) (n : Nat) (a b c d e f g h : Int) :
  (Op.equalIn (n + 2) 36 (.agg #[.int .i64 a, .int .i64 b, .int .i64 c, .int .i64 d]) (.agg #[.int .i64 e, .int .i64 f, .int .i64 g, .int .i64 h])).run Tryz.prog w = .ok (a == e && b == f && c == g && d == h) w := by
 have s1 : ∀ w, (sizeOf 3).run Tryz.prog w = .ok 1 w := fun _ => by kernel_rfl
 have p0 : ∀ (a b c d : Int) w, (part 3 #[.int .i64 a, .int .i64 b, .int .i64 c, .int .i64 d] 0).run Tryz.prog w = .ok (.int .i64 a) w := fun _ _ _ _ _ => by kernel_rfl
 have p1 : ∀ (a b c d : Int) w, (part 3 #[.int .i64 a, .int .i64 b, .int .i64 c, .int .i64 d] 1).run Tryz.prog w = .ok (.int .i64 b) w := fun _ _ _ _ _ => by kernel_rfl
 have p2 : ∀ (a b c d : Int) w, (part 3 #[.int .i64 a, .int .i64 b, .int .i64 c, .int .i64 d] 2).run Tryz.prog w = .ok (.int .i64 c) w := fun _ _ _ _ _ => by kernel_rfl
 have p3 : ∀ (a b c d : Int) w, (part 3 #[.int .i64 a, .int .i64 b, .int .i64 c, .int .i64 d] 3).run Tryz.prog w = .ok (.int .i64 d) w := fun _ _ _ _ _ => by kernel_rfl
 have q : ∀ (x y : Int) w, (Op.equalIn (n + 1) 3 (.int .i64 x) (.int .i64 y)).run Tryz.prog w = .ok (x == y) w := fun x y w => run_equalIn_int w n _ .i64 .i64 x y Tryz.underlying3
 rw [Op.equalIn]
 simp only [Sem.run_bind, run_underlying Tryz.underlying36, Result.andThen_ok, s1, Std.Legacy.Range.forIn_eq_forIn_range', Std.Legacy.Range.size]
 show ((Sem.run Tryz.prog (forIn [0, 1, 2, 3] _ _) w).andThen _) = _
 simp only [List.forIn_cons, List.forIn_nil, Sem.run_bind, Nat.mul_one, p0, p1, p2, p3, q, Result.andThen_ok]
 by_cases h0 : a = e <;> by_cases h1 : b = f <;> by_cases h2 : c = g <;> by_cases h3 : d = h <;> simp [p0, p1, p2, p3, q, h0, h1, h2, h3]
@[go_sem] theorem eqItems (w : World) (a b c d e f g h : Int) :
  (Op.equalIn 10000 36 (.agg #[.int .i64 a, .int .i64 b, .int .i64 c, .int .i64 d]) (.agg #[.int .i64 e, .int .i64 f, .int .i64 g, .int .i64 h])).run Tryz.prog w = .ok (a == e && b == f && c == g && d == h) w := eqItemsAt w 9998 a b c d e f g h
end Go.Proofs.YtdlbiobjnohfbaaGreat
