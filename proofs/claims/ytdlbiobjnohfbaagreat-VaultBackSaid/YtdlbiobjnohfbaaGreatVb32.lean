/- The document's Place: both. vault: slices.Sorted(maps.Keys(m)) at this program. Plain facts on the order of texts, byte by byte. vault: pure: its rows by their names. The document's vault: spot, Has. -/
import Derived.Test.YtdlbiobjnohfbaaGreatLayK
import Derived.Test.YtdlbiobjnohfbaaGreatVb30
import Derived.Test.YtdlbiobjnohfbaaGreatVb31
namespace Go.Proofs.YtdlbiobjnohfbaaGreat
open Go.RowKit
set_option linter.unusedVariables false
set_option linter.unusedSimpArgs false
theorem refPlace (B x : Nat) (u : Value) (last : Int) (L : List Od) (o : Od) (w : World) (h : RfB w B x u L last) (hk : Bk L last) (hlen : L.length ≤ 1000) :
  Calls Tryz.prog 49 #[.pointer (some ⟨x, 0, none⟩), odA o] w fun e w' => ∃ (T : List Td) (n c : Int) (L' : List Od) (last' : Int) (u' : Value) (tv : Value), e = .returned (.tuple #[tv, .int .i64 n, .int .i64 c]) ∧ PlacedR L last o T n c L' last' ∧ RfB w' B x u' L' last' ∧ w'.ownsRow w.heap.size 108 8 tv T.length (flatT T) ∧ (∀ k, tv.ownBlock = some k → ¬ Fx x u' k) ∧ Touch (Fx x u) w w' ∧ (∀ k, Fx x u' k → Fx x u k ∨ w.heap.size ≤ k) := by
 unfold odA
 cases hb : o.buy with
 | true => exact refPlaceT B x u last L o w h hk hlen hb
 | false => exact refPlaceF B x u last L o w h hk hlen hb
open Go.RowKit Go.Maps Go.MapKept Go.Sort Go.Shelf
open Go.Proofs
open Go.WideElems (Fit rg)
open Go.WideMaps (keyOf_string_mk)
set_option maxRecDepth 100000
def insB (x : List UInt8) : List (List UInt8) → List (List UInt8)
 | [] => [x]
 | y :: r => if leB x y then x :: y :: r else y :: insB x r
def sortB : List (List UInt8) → List (List UInt8)
 | [] => []
 | x :: r => insB x (sortB r)
theorem insB_perm (x : List UInt8) : ∀ l, (insB x l).Perm (x :: l)
 | [] => List.Perm.refl _
 | y :: r => by
  unfold insB
  split
  · exact List.Perm.refl _
  · exact ((insB_perm x r).cons y).trans (List.Perm.swap x y r)
theorem sortB_perm : ∀ l, (sortB l).Perm l
 | [] => List.Perm.refl _
 | x :: r => (insB_perm x _).trans ((sortB_perm r).cons x)
theorem leB_trans (a b c : List UInt8) (h1 : leB a b = true) (h2 : leB b c = true) : leB a c = true := by simp only [leB, decide_eq_true_eq] at *; exact List.le_trans h1 h2
theorem leB_total (a b : List UInt8) : (leB a b || leB b a) = true := by simp only [leB, Bool.or_eq_true, decide_eq_true_eq]; exact List.le_total a b
theorem insB_sorted (x : List UInt8) : ∀ l, l.Pairwise (fun a b => leB a b = true) → (insB x l).Pairwise (fun a b => leB a b = true)
 | [], _ => by simp [insB]
 | y :: r, h => by
  have hy := List.pairwise_cons.1 h
  unfold insB
  split
  ·
   rename_i hxy
   refine List.pairwise_cons.2 ⟨fun z hz => ?_, h⟩
   rcases List.mem_cons.1 hz with rfl | hz
   · exact hxy
   · exact leB_trans _ _ _ hxy (hy.1 z hz)
  ·
   rename_i hxy
   refine List.pairwise_cons.2 ⟨fun z hz => ?_, insB_sorted x r hy.2⟩
   rcases List.mem_cons.1 ((insB_perm x r).mem_iff.1 hz) with rfl | hz
   ·
    have := leB_total z y
    rw [Bool.or_eq_true] at this
    exact this.resolve_left hxy
   · exact hy.1 z hz
theorem sortB_sorted : ∀ l, (sortB l).Pairwise (fun a b => leB a b = true)
 | [] => List.Pairwise.nil
 | x :: r => insB_sorted x _ (sortB_sorted r)
theorem mergeSort_eq {ss l : List (List UInt8)} (h : ss.Perm l) : ss.mergeSort leB = sortB l := by
 rw [mergeSort_of_perm (h.trans (sortB_perm l).symm)]
 exact List.mergeSort_of_pairwise (sortB_sorted l)
structure SortedKeysAt (P : Program) (f g : FuncId) (kt : TypeId) : Prop where
 str : P.underlying kt = some .string
 some : ∀ (W : World) (Bm b nn : Nat) (D0 : DataW Unit) (R : Value → Option (DataW Unit × List MemPlace)), Bm < W.heap.size → W.cell? ⟨Bm, 0, none⟩ = some (.map (some b)) → W.ownsMap P kt R b nn D0 → Maps.size D0 ≤ 1000000 →
  Calls P f #[.func (.func g) #[] #[.pointer (some ⟨Bm, 0, none⟩)]] W fun e w' => ∃ (v : Value) (ss : List (List UInt8)), e = .returned v ∧ ss.Perm (strKeys D0) ∧
   w'.ownsRow W.heap.size kt 1 v ss.length ((ss.mergeSort leB).map encStr) ∧ (v = .slice none 0 0 ↔ ss = []) ∧ Below W.heap.size W w'
theorem owns_of {P : Program} {kt : TypeId} (hs : P.underlying kt = some .string) {w : World} {b cl : Nat} {es' : Array MapEntry} {ks : List ByteArray} (hb : w.heap[b]? = some (.map es' cl)) (hk : es'.toList.map (·.key) = ks.map Value.string)
  (h1 : ∀ x ∈ es'.toList, x.born < cl) (h2 : (es'.toList.map (·.born)).Nodup) (h3 : ks.Nodup) (h4 : es'.size ≤ 1000) (h5 : ∀ k ∈ ks, k.size ≤ 1000) :
  ∃ D0 : DataW Unit, w.ownsMap P kt (fun _ => some (.nil, [])) b es'.size D0 ∧ (ks.map fun k => k.data.toList).Perm (strKeys D0) ∧ Maps.size D0 = es'.size := by
 have hkey : ∀ x ∈ es'.toList, ∃ s ∈ ks, x.key = .string s := fun x hx => by
  have : x.key ∈ es'.toList.map (·.key) := List.mem_map.2 ⟨x, hx, rfl⟩
  rw [hk] at this
  obtain ⟨s, h, e⟩ := List.mem_map.1 this
  exact ⟨s, h, e.symm⟩
 have hrd : ∀ x ∈ es'.toList, ∀ s, x.key = .string s → s ∈ ks → Go.WideElems.rd P kt (fun _ => some ((.nil : DataW Unit), [])) x = some (.string s.data.toList, .nil) := fun x hx s e hs' => by
  unfold Go.WideElems.rd
  rw [e, keyOf_string_mk hs (by have := h5 s hs'; unfold maxLen; omega)]
  rfl
 have F : Fit P kt (fun _ => some ((.nil : DataW Unit), [])) es' cl := ⟨by unfold maxLen; omega, ⟨h1, h2, by
   rw [hk]
   unfold List.Nodup at h3 ⊢
   rw [List.pairwise_map]
   exact h3.imp (fun hne e => hne (by injection e))⟩, fun x hx => by
   obtain ⟨s, hs', e⟩ := hkey x hx
   exact ⟨_, hrd x hx s e hs'⟩⟩
 refine ⟨_, ⟨es', cl, hb, F, Nat.le_refl _, rfl⟩, ?_, ?_⟩
 ·
  unfold strKeys
  have hp := (WideShapes.sorted_perm (es'.toList.map (rg P kt (fun _ => some ((.nil : DataW Unit), []))))).map (fun p => strOf p.1)
  refine List.Perm.trans (List.Perm.of_eq ?_) hp.symm
  have e1 : ks.map (fun k => k.data.toList) = (ks.map Value.string).map (fun v => match v with | .string s => s.data.toList | _ => []) := by rw [List.map_map]; rfl
  rw [e1, ← hk, List.map_map, List.map_map]
  refine List.map_congr_left fun x hx => ?_
  obtain ⟨s, hs', e⟩ := hkey x hx
  simp only [Function.comp, e, rg, hrd x hx s e hs', Option.getD_some, strOf]
 ·
  show ((es'.toList.map _).foldr DataW.insert []).length = _
  rw [(WideShapes.sorted_perm _).length_eq]; simp
theorem sortsAtV (m : Nat) : AnyZ.SortsIn Tryz.prog Tryz.sorted29_ren Fence.wide m :=
  ⟨fun blk off cap ss W hH hblk hsz => callsIn_wide.2 (AnyM.slices_Sort_string Tryz.sort45 blk off cap ss W hH hblk hsz),
   fun p cap W => callsIn_wide.2 (AnyM.slices_Sort_string_none Tryz.sort45 p cap W)⟩
set_option maxHeartbeats 1000000 in
theorem sortedAtV : SortedKeysAt Tryz.prog 70 102 9 :=
 ⟨Tryz.underlying9, fun W Bm b nn D0 R hBm hcell hown hsize => by
  have hseq : SeqGives Fence.wide 2 Tryz.prog 102 #[.pointer (some ⟨Bm, 0, none⟩)] encStr (fun ss => ss.Perm (strKeys D0)) (Maps.size D0) W :=
   AnyZ.keys_gives (ρ := Tryz.keys30_ren) { Tryz.keys30 with } Fence.wide _ trivial rfl (by omega) Bm b nn D0 W hBm hcell hown
  exact (callsIn_wide (n := 5)).1 (AnyZ.sorted_in Tryz.sorted29 Fence.wide 5 trivial trivial trivial trivial rfl (by omega) (sortsAtV _) (enters_of Tryz.func101 (by kernel_rfl) rfl) 102 #[.pointer (some ⟨Bm, 0, none⟩)] trivial (enters_of Tryz.func102 (by kernel_rfl) rfl) _ _ (by unfold maxLen; omega) (by omega) _ hseq)⟩
theorem keysBV (m : Option Nat) (w : World) : Calls Tryz.prog 71 #[.map m] w fun e w' => e = .returned (.func (.func 102) #[] #[.pointer (some ⟨w.heap.size, 0, none⟩)]) ∧ Whl w' w.heap.size 74 #[.map m] ∧ Below w.heap.size w w' := by
 go_enter Tryz.func71, Tryz.ntmps71
 go_wp2_with fail
 go_ret
 exact ⟨rfl, Whl.new rfl, by exact tB⟩
end Go.Proofs.YtdlbiobjnohfbaaGreat
namespace Go.Proofs.YtdlbiobjnohfbaaGreat
set_option linter.unusedVariables false
set_option linter.unusedSimpArgs false
theorem bytesLess_eq : ∀ (x y : List UInt8), Op.bytesLess x y = decide (x < y)
 | [], [] => by simp [Op.bytesLess]
 | _ :: _, [] => by simp [Op.bytesLess]
 | [], _ :: _ => by simp [Op.bytesLess]
 | a :: x, b :: y => by
  rw [Op.bytesLess, bytesLess_eq x y]
  simp only [List.cons_lt_cons_iff]
  by_cases h1 : a < b <;> by_cases h2 : a = b <;> by_cases h3 : x < y <;> simp [h1, h2, h3]
theorem less_irrefl (a : List UInt8) : Op.bytesLess a a = false := by rw [bytesLess_eq]; simp [List.lt_irrefl]
theorem less_trans {a b c : List UInt8} (h : Op.bytesLess a b = true) (h2 : Op.bytesLess b c = true) : Op.bytesLess a c = true := by
 rw [bytesLess_eq, decide_eq_true_iff] at *; exact List.lt_trans h h2
theorem less_asymm {a b : List UInt8} (h : Op.bytesLess a b = true) : Op.bytesLess b a = false := by
 rw [bytesLess_eq] at *; simp only [decide_eq_true_eq, decide_eq_false_iff_not] at *; exact List.lt_asymm h
theorem less_eq {a b : List UInt8} (h : Op.bytesLess a b = false) (h2 : Op.bytesLess b a = false) : a = b := by
 rw [bytesLess_eq] at *; simp only [decide_eq_false_iff_not] at *; exact List.le_antisymm (List.not_lt.1 h2) (List.not_lt.1 h)
theorem nil_less {a : List UInt8} (h : a ≠ []) : Op.bytesLess [] a = true := by cases a with | nil => exact absurd rfl h | cons x y => rfl
open Go.RowKit Go.ChangeMaps Go.MapKept
theorem Tryz.infoHold : (Tryz.prog.info? 85).map (fun i => (i.zero, i.size, i.bytes)) = some (some (.agg #[.string ⟨#[]⟩, .int .i64 0, .int .i64 0, .int .i64 0, .int .i64 0]), 5, 48) := by kernel_rfl
abbrev Hd := By × It4
def rowH (r : Hd) : List Value := [encB r.1, .int .i64 r.2.1, .int .i64 r.2.2.1, .int .i64 r.2.2.2.1, .int .i64 r.2.2.2.2]
def flatH (l : List Hd) : List Value := l.flatMap rowH
theorem flatH_app (a b : List Hd) : flatH (a ++ b) = flatH a ++ flatH b := by simp [flatH]
theorem flatH_at : ∀ (l : List Hd) (j : Nat) (h : j < l.length), (flatH l)[j * 5]? = some (encB l[j].1) ∧ (flatH l)[j * 5 + 1]? = some (.int .i64 l[j].2.1) ∧ (flatH l)[j * 5 + 2]? = some (.int .i64 l[j].2.2.1) ∧ (flatH l)[j * 5 + 3]? = some (.int .i64 l[j].2.2.2.1) ∧ (flatH l)[j * 5 + 4]? = some (.int .i64 l[j].2.2.2.2)
 | [], j, h => by cases h
 | a :: r, 0, h => by simp [flatH, rowH]
 | a :: r, j + 1, h => by
  have := flatH_at r j (by simpa using h)
  have e : (j + 1) * 5 = j * 5 + 5 := by omega
  simp only [flatH, List.flatMap_cons, rowH, List.getElem_cons_succ] at this ⊢
  rw [e]
  exact this
def keysP (l : Pm) : List By := sortB (l.map (·.1))
def rowsP (l : Pm) : List Hd := (keysP l).map fun k => (k, hasP l k)
theorem keysP_len (l : Pm) : (keysP l).length = l.length := by
 have := (sortB_perm (l.map (·.1))).length_eq
 simpa [keysP] using this
theorem rowsP_len (l : Pm) : (rowsP l).length = l.length := by simp [rowsP, keysP_len]
theorem keysP_mem {l : Pm} {k : By} : k ∈ keysP l ↔ k ∈ l.map (·.1) := (sortB_perm _).mem_iff
theorem has_mem {l : Pm} (h : (l.map (·.1)).Nodup) {p : By × It4} (hp : p ∈ l) : hasP l p.1 = p.2 := by
 unfold hasP
 rw [get1_of_mem h hp]; rfl
theorem rowsP_perm {l : Pm} (h : (l.map (·.1)).Nodup) : (rowsP l).Perm l := by
 have h1 : (rowsP l).Perm ((l.map (·.1)).map fun k => (k, hasP l k)) := (sortB_perm _).map _
 refine h1.trans (List.Perm.of_eq ?_)
 rw [List.map_map]
 conv => rhs; rw [← List.map_id l]
 exact List.map_congr_left fun p hp => by show (p.1, hasP l p.1) = p; rw [has_mem h hp]
theorem rowsP_at {l : Pm} {j : Nat} (h : j < l.length) : ∃ k, (keysP l)[j]? = some k ∧ (rowsP l)[j]? = some (k, hasP l k) ∧ k ∈ l.map (·.1) := by
 have hk : j < (keysP l).length := by rw [keysP_len]; exact h
 refine ⟨(keysP l)[j], List.getElem?_eq_getElem hk, ?_, keysP_mem.1 (List.getElem_mem hk)⟩
 unfold rowsP
 rw [List.getElem?_map, List.getElem?_eq_getElem hk]; rfl
def BL (a b : By) : Prop := Op.bytesLess a b = true
instance (a b : By) : Decidable (BL a b) := inferInstanceAs (Decidable (_ = true))
theorem BL.ne {a b : By} (h : BL a b) : a ≠ b := fun e => by subst e; unfold BL at h; rw [less_irrefl] at h; cases h
theorem BL.trans {a b c : By} (h : BL a b) (h2 : BL b c) : BL a c := less_trans h h2
def SortedH (r : Pm) : Prop := r.Pairwise fun a b => BL a.1 b.1
theorem keysP_sorted {l : Pm} (hn : (l.map (·.1)).Nodup) : (keysP l).Pairwise BL := by
 have h1 : (keysP l).Pairwise (fun a b => leB a b = true) := sortB_sorted _
 have h2 : (sortB (l.map (·.1))).Nodup := (sortB_perm (l.map (·.1))).nodup_iff.2 hn
 refine (List.Pairwise.and h1 h2).imp (fun {a b} h => ?_)
 have hle : a ≤ b := by simpa [leB] using h.1
 unfold BL
 rw [bytesLess_eq, decide_eq_true_iff]
 exact List.not_le.1 (fun h3 => h.2 (List.le_antisymm hle h3))
theorem rowsP_sorted {l : Pm} (hn : (l.map (·.1)).Nodup) : SortedH (rowsP l) := by
 unfold SortedH rowsP
 rw [List.pairwise_map]
 exact keysP_sorted hn
theorem has_notin {r : Pm} {j : By} (h : ∀ p ∈ r, p.1 ≠ j) : hasP r j = z4 := by
 unfold hasP
 rw [get1_none.2 (fun hm => by obtain ⟨p, hp, e⟩ := List.mem_map.1 hm; exact h p hp e)]
 rfl
theorem SortedH.nodup {r : Pm} (h : SortedH r) : (r.map (·.1)).Nodup := by
 unfold List.Nodup
 rw [List.pairwise_map]
 exact h.imp (fun h => h.ne)
theorem rowsP_has {l : Pm} (hn : (l.map (·.1)).Nodup) (j : By) : hasP (rowsP l) j = hasP l j := by
 have hp := rowsP_perm hn
 by_cases h : j ∈ l.map (·.1)
 ·
  obtain ⟨p, hp1, rfl⟩ := List.mem_map.1 h
  rw [has_mem hn hp1, has_mem (rowsP_sorted hn).nodup (hp.mem_iff.2 hp1)]
 · rw [has_notin (r := l) (fun p hp1 e => h (List.mem_map.2 ⟨p, hp1, e⟩)), has_notin (fun p hp1 e => h (List.mem_map.2 ⟨p, hp.mem_iff.1 hp1, e⟩))]
def midS (k : By) (x : It4) : Pm := if x = z4 then [] else [(k, x)]
def setS (k : By) (x : It4) : Pm → Pm
 | [] => midS k x
 | (a, y) :: r => if BL a k then (a, y) :: setS k x r else midS k x ++ (if a = k then r else (a, y) :: r)
def spotS (k : By) : Pm → Nat × Bool
 | [] => (0, false)
 | (a, y) :: r => if BL a k then ((spotS k r).1 + 1, (spotS k r).2) else (0, decide (a = k))
theorem setS_spot (k : By) (x : It4) : ∀ r : Pm, setS k x r = r.take (spotS k r).1 ++ (midS k x ++ r.drop (if (spotS k r).2 = true then (spotS k r).1 + 1 else (spotS k r).1))
 | [] => by simp [setS, spotS]
 | (a, y) :: r => by
  have ih := setS_spot k x r
  simp only [setS, spotS]
  split
  ·
   rw [ih]
   split <;> simp
  ·
   by_cases e : a = k
   · simp [e]
   · simp [e]
theorem spotS_le (k : By) : ∀ r : Pm, (spotS k r).1 ≤ r.length ∧ ((spotS k r).2 = true → (spotS k r).1 < r.length)
 | [] => ⟨Nat.le_refl _, fun h => by cases h⟩
 | (a, y) :: r => by
  have ih := spotS_le k r
  simp only [spotS]
  split
  · exact ⟨by simp only [List.length_cons]; omega, fun h => by have := ih.2 h; simp only [List.length_cons]; omega⟩
  · exact ⟨Nat.zero_le _, fun _ => by simp⟩
theorem mem_midS {k : By} {x : It4} {p : By × It4} (h : p ∈ midS k x) : p.1 = k ∧ p.2 ≠ z4 := by
 unfold midS at h
 split at h
 · cases h
 ·
  rename_i hx
  simp only [List.mem_singleton] at h
  subst h
  exact ⟨rfl, hx⟩
theorem mem_setS {k : By} {x : It4} : ∀ {r : Pm} {p : By × It4}, p ∈ setS k x r → (p.1 = k ∧ p.2 ≠ z4) ∨ p ∈ r
 | [], p, h => .inl (mem_midS h)
 | (a, y) :: r, p, h => by
  simp only [setS] at h
  split at h
  ·
   rcases List.mem_cons.1 h with rfl | h
   · exact .inr List.mem_cons_self
   ·
    rcases mem_setS h with h | h
    · exact .inl h
    · exact .inr (List.mem_cons_of_mem _ h)
  ·
   rcases List.mem_append.1 h with h | h
   · exact .inl (mem_midS h)
   ·
    split at h
    · exact .inr (List.mem_cons_of_mem _ h)
    · exact .inr h
theorem BL.of_not {a k : By} (h : ¬ BL a k) (h2 : a ≠ k) : BL k a := by
 cases h3 : Op.bytesLess k a with
 | true => exact h3
 | false =>
  have h4 : Op.bytesLess a k = false := by
   cases h5 : Op.bytesLess a k with
   | true => exact absurd h5 h
   | false => rfl
  exact absurd (less_eq h4 h3) h2
theorem midS_sorted (k : By) (x : It4) : SortedH (midS k x) := by
 unfold midS SortedH
 split <;> simp
theorem setS_sorted {k : By} {x : It4} : ∀ {r : Pm}, SortedH r → SortedH (setS k x r)
 | [], _ => midS_sorted k x
 | (a, y) :: r, h => by
  obtain ⟨h1, h2⟩ := List.pairwise_cons.1 h
  simp only [setS]
  split
  ·
   rename_i hak
   refine List.pairwise_cons.2 ⟨fun p hp => ?_, setS_sorted h2⟩
   rcases mem_setS hp with ⟨e, _⟩ | hp
   · rw [e]; exact hak
   · exact h1 p hp
  ·
   rename_i hak
   refine List.pairwise_append.2 ⟨midS_sorted k x, ?_, ?_⟩
   ·
    split
    · exact h2
    · exact h
   ·
    intro p hp q hq
    rw [(mem_midS hp).1]
    split at hq
    · rename_i e; subst e; exact h1 q hq
    ·
     rename_i e
     have hk := BL.of_not hak e
     rcases List.mem_cons.1 hq with rfl | hq
     · exact hk
     · exact hk.trans (h1 q hq)
theorem has_mid (k : By) (x : It4) (j : By) (r : Pm) : hasP (midS k x ++ r) j = if k = j ∧ x ≠ z4 then x else hasP r j := by
 unfold midS
 split
 · rename_i e; simp [e]
 ·
  rename_i e
  simp only [List.cons_append, List.nil_append, has_cons]
  by_cases h : k = j
  · simp [h, e]
  · simp [h]
theorem has_setS {k : By} {x : It4} (j : By) : ∀ {r : Pm}, SortedH r → hasP (setS k x r) j = if k = j then x else hasP r j
 | [], _ => by
  have := has_mid k x j []
  simp only [List.append_nil] at this
  simp only [setS]
  rw [this]
  by_cases h : k = j
  ·
   by_cases e : x = z4
   · simp [h, e, hasNilV]
   · simp [h, e]
  · simp [h]
 | (a, y) :: r, h => by
  obtain ⟨h1, h2⟩ := List.pairwise_cons.1 h
  simp only [setS]
  split
  ·
   rename_i hak
   rw [has_cons, has_cons, has_setS j h2]
   by_cases e1 : a = j
   ·
    have : ¬ k = j := fun e => hak.ne (e1.trans e.symm)
    simp [e1, this]
   · simp [e1]
  ·
   rename_i hak
   rw [has_mid, has_cons]
   by_cases e1 : k = j
   ·
    subst e1
    by_cases e : x = z4
    ·
     subst e
     simp only [ne_eq, not_true_eq_false, and_false, if_false, if_true]
     split
     ·
      rename_i e2; subst e2
      exact has_notin (fun p hp => (h1 p hp).ne.symm)
     ·
      rename_i e2
      have hk := BL.of_not hak e2
      rw [has_cons, if_neg e2]
      exact has_notin (fun p hp => (hk.trans (h1 p hp)).ne.symm)
    · simp [e]
   ·
    simp only [e1, false_and, if_false]
    split
    · rename_i e2; subst e2; simp [e1]
    · rw [has_cons]
theorem SortedH.uniq : ∀ {a b : Pm}, SortedH a → SortedH b → (∀ p ∈ a, p.2 ≠ z4) → (∀ p ∈ b, p.2 ≠ z4) → (∀ k, hasP a k = hasP b k) → a = b
 | [], [], _, _, _, _, _ => rfl
 | [], (k, y) :: s, _, _, _, hb, h => absurd (by have := h k; rw [has_cons, if_pos rfl, hasNilV] at this; exact this.symm) (hb (k, y) List.mem_cons_self)
 | (k, y) :: s, [], _, _, ha, _, h => absurd (by have := h k; rw [has_cons, if_pos rfl, hasNilV] at this; exact this) (ha (k, y) List.mem_cons_self)
 | (a, x) :: r, (b, y) :: s, h1, h2, ha, hb, h => by
  obtain ⟨p1, p2⟩ := List.pairwise_cons.1 h1
  obtain ⟨q1, q2⟩ := List.pairwise_cons.1 h2
  by_cases e : a = b
  ·
   subst e
   have hx := h a
   rw [has_cons, if_pos rfl, has_cons, if_pos rfl] at hx
   subst hx
   have ht := SortedH.uniq p2 q2 (fun p hp => ha p (List.mem_cons_of_mem _ hp)) (fun p hp => hb p (List.mem_cons_of_mem _ hp)) (fun k => by
    by_cases e : a = k
    ·
     subst e
     rw [has_notin (fun p hp => (p1 p hp).ne.symm), has_notin (fun p hp => (q1 p hp).ne.symm)]
    ·
     have := h k
     rw [has_cons, if_neg e, has_cons, if_neg e] at this
     exact this)
   rw [ht]
  ·
   exfalso
   by_cases hab : BL a b
   ·
    have hx := h a
    rw [has_cons, if_pos rfl, has_cons, if_neg (fun e2 => e e2.symm), has_notin (fun p hp => (hab.trans (q1 p hp)).ne.symm)] at hx
    exact ha (a, x) List.mem_cons_self hx
   ·
    have hba := BL.of_not hab e
    have hx := h b
    rw [has_cons, if_neg e, has_cons, if_pos rfl, has_notin (fun p hp => (hba.trans (p1 p hp)).ne.symm)] at hx
    exact hb (b, y) List.mem_cons_self hx.symm
theorem rowsP_set {l : Pm} (hl : PmOk l) (k : By) (x : It4) : rowsP (setP l k x) = setS k x (rowsP l) := by
 have hn := setP_nodup hl.1 k x
 refine SortedH.uniq (rowsP_sorted hn) (setS_sorted (rowsP_sorted hl.1)) (fun p hp => ?_) (fun p hp => ?_) (fun j => ?_)
 ·
  have hp2 := (rowsP_perm hn).mem_iff.1 hp
  unfold setP at hp2
  split at hp2
  · exact (hl.2 p (del1_keys p hp2)).1
  ·
   rename_i hx
   rcases put1_mem p hp2 with rfl | hp2
   · exact hx
   · exact (hl.2 p hp2).1
 ·
  rcases mem_setS hp with ⟨_, h⟩ | hp
  · exact h
  · exact (hl.2 p ((rowsP_perm hl.1).mem_iff.1 hp)).1
 · rw [rowsP_has hn, has_set hl.1, has_setS j (rowsP_sorted hl.1), rowsP_has hl.1]
theorem row_belowR {w w' : World} {base e size n : Nat} {v : Value} {xs : List Value} (h : w.ownsRow base e size v n xs) (hb : Below w.heap.size w w') : w'.ownsRow base e size v n xs := (Touch.of_below hb).own h (fun g hg hd => by have := (h.lt g hg).2; omega)
structure RvH (w : World) (B d x : Nat) (u u2 : Value) (r : Pm) (L : List Od) (last nx : Int) : Prop where
 whl : Whl w d 65 #[u, .pointer (some ⟨x, 0, none⟩), .int .i64 nx]
 row : w.ownsRow B 85 5 u r.length (flatH r)
 bk : RfB w B x u2 L last
 low : B ≤ d
 dx : d ≠ x
 ud : u.ownBlock ≠ some d
 ux : u.ownBlock ≠ some x
 vd : u2.ownBlock ≠ some d
 uv : ∀ g, u.ownBlock = some g → u2.ownBlock ≠ some g
def Fr (d x : Nat) (u u2 : Value) (k : Nat) : Prop := (k = d ∨ u.ownBlock = some k) ∨ Fx x u2 k
theorem RvH.lows {w : World} {B d x : Nat} {u u2 : Value} {r : Pm} {L : List Od} {last nx : Int} (h : RvH w B d x u u2 r L last nx) : ∀ k, Fr d x u u2 k → B ≤ k ∧ k < w.heap.size := by
 rintro k ((rfl | hk) | hk)
 · exact ⟨h.low, h.whl.low⟩
 · exact h.row.lt k hk
 · exact h.bk.lows k hk
theorem RvH.keep {D : Nat → Prop} {w w' : World} {B d x : Nat} {u u2 : Value} {r : Pm} {L : List Od} {last nx : Int} (h : RvH w B d x u u2 r L last nx) (ht : Touch D w w') (hD : ∀ k, Fr d x u u2 k → ¬ D k) : RvH w' B d x u u2 r L last nx :=
 ⟨(ht.block d h.whl.low (hD d (.inl (.inl rfl)))).trans h.whl, ht.own h.row (fun g hg => hD g (.inl (.inr hg))), h.bk.keep ht (fun k hk => hD k (.inr hk)), h.low, h.dx, h.ud, h.ux, h.vd, h.uv⟩
theorem RvH.below {w w' : World} {B d x : Nat} {u u2 : Value} {r : Pm} {L : List Od} {last nx : Int} (h : RvH w B d x u u2 r L last nx) (hb : Below w.heap.size w w') : RvH w' B d x u u2 r L last nx :=
 h.keep (Touch.of_below hb) (fun k hk hd => by have := (h.lows k hk).2; omega)
structure RvL (w : World) (d : Nat) (u : Value) (r : Pm) : Prop where
 c0 : w.cell? ⟨d, 0, none⟩ = some u
 row : w.ownsRow 0 85 5 u r.length (flatH r)
 low : d < w.heap.size
theorem RvH.rl {w : World} {B d x : Nat} {u u2 : Value} {r : Pm} {L : List Od} {last nx : Int} (h : RvH w B d x u u2 r L last nx) : RvL w d u r :=
 ⟨h.whl.cell 0, Go.World.ownsRow.mono h.row (Nat.zero_le _), h.whl.low⟩
theorem spotS_drop {k : By} {r : Pm} {i : Nat} (h : i < r.length) : spotS k (r.drop i) = if BL r[i].1 k then ((spotS k (r.drop (i + 1))).1 + 1, (spotS k (r.drop (i + 1))).2) else (0, decide (r[i].1 = k)) := by
 rw [List.drop_eq_getElem_cons h]
 obtain ⟨a, y⟩ := r[i]
 rfl
set_option maxHeartbeats 4000000 in
set_option maxRecDepth 10000 in
theorem refSpot (d : Nat) (u : Value) (r : Pm) (s : ByteArray) (w : World) (h : RvL w d u r) (hlen : r.length ≤ 100000) :
  Calls Tryz.prog 69 #[.pointer (some ⟨d, 0, none⟩), .string s] w fun e w' => e = .returned (.tuple #[.int .i64 (spotS s.data.toList r).1, .bool (spotS s.data.toList r).2]) ∧ Below w.heap.size w w' := by
 obtain ⟨A, c, rfl, _, _, _⟩ := own_slice h.row
 have hc0 := h.c0
 have hlow := h.low
 have HROW := Lib.hid h.row
 clear h
 go_enter Tryz.func69, Tryz.ntmps69
 go_wp2_with fail
 go_loopw [6] (fun iv wr => ∃ i : Nat, i ≤ r.length ∧ iv = .int .i64 i ∧ Below w.heap.size w wr ∧ spotS s.data.toList r = ((spotS s.data.toList (r.drop i)).1 + i, (spotS s.data.toList (r.drop i)).2)) (fun iv _ => r.length - (intOf iv).toNat)
 case atStart => exact ⟨0, Nat.zero_le _, rfl, Below.refl _ _, by simp⟩
 case round =>
  obtain ⟨i, hil, rfl, hB, hsp⟩ := hrel
  have c0 := bkeep hB hc0 hlow
  have HSP := Lib.hid hsp
  have HB := Lib.hid hB
  clear hsp
  by_cases hlt : i < r.length
  ·
   have q1 : (i : Int) < (r.length : Int) := by omega
   cases A with
   | none => have := HROW.out.2; rcases this with ⟨_, h0⟩ | ⟨g0, _, _, e, _⟩; (exact absurd h0 (by omega)); injection e with e; cases e
   | some ad =>
   obtain ⟨gq, cq, e1, hq5, hq6, _, _⟩ := own_form HROW.out (by omega)
   simp only [Value.slice.injEq, Option.some.injEq, true_and] at e1
   obtain ⟨rfl, rfl⟩ := e1
   have hrow := row_belowR HROW.out hB
   have y0 := (hrow.cellAt (i * 5) (by omega)).trans (flatH_at r i hlt).1
   obtain ⟨s1, hs1⟩ : ∃ s : ByteArray, s = ⟨r[i].1.toArray⟩ := ⟨_, rfl⟩
   have hsk1 : s1.toList = r[i].1 := by rw [Lib.toList_data, hs1]
   have hes1 : encB r[i].1 = .string s1 := by rw [hs1]; rfl
   rw [hes1] at y0
   have hst := spotS_drop (k := s.data.toList) hlt
   have HST := Lib.hid hst
   have hsd : s.toList = s.data.toList := Lib.toList_data _
   cases hbl : Op.bytesLess s1.toList s.toList with
   | true =>
    have hBL : BL r[i].1 s.data.toList := by unfold BL; rw [← hsk1, ← hsd]; exact hbl
    have HBL := Lib.hid hBL
    clear hB hrow hs1 hst hes1 hBL hsk1 hsd
    go_wp2_with fail
    refine ⟨⟨i + 1, hlt, by go_num, HB.out, ?_⟩, by simp [intOf]; omega⟩
    rw [HSP.out, HST.out, if_pos HBL.out]
    simp only [Prod.mk.injEq, and_true]
    omega
   | false =>
    have hBL : ¬ BL r[i].1 s.data.toList := by unfold BL; rw [← hsk1, ← hsd, hbl]; simp
    have hres : spotS s.data.toList r = (i, (s1.toList == s.toList)) := by
     rw [HSP.out, HST.out, if_neg hBL, hsk1, hsd]
     simp only [Prod.mk.injEq, Nat.zero_add, true_and]
     by_cases e : r[i].1 = s.data.toList
     · simp [e]
     · simp [e]
    have HRES := Lib.hid hres
    clear hB hrow hs1 hst hes1 hBL hres hsk1 hsd
    go_wp2_with fail
    go_region
    go_wp2_with fail
    refine bodyPost_ret (v := .tuple #[.int .i64 i, .bool (s1.toList == s.toList)]) (by simp [results, Tryz.results69, go_sem]) rfl ⟨by rw [HRES.out], HB.out.drew⟩
  ·
   obtain rfl : i = r.length := by omega
   clear hB
   go_wp2_with fail
   have hres : spotS s.data.toList r = (r.length, false) := by
    have := HSP.out
    rw [List.drop_of_length_le (Nat.le_refl _)] at this
    rw [this]
    simp [spotS]
   rw [hres]
   refine bodyPost_ret (v := .tuple #[.int .i64 r.length, .bool false]) (by simp [results, Tryz.results69, go_sem]) rfl ⟨rfl, HB.out⟩
theorem spotS_at {k : By} : ∀ {r : Pm}, SortedH r → ((spotS k r).2 = true → ∃ h : (spotS k r).1 < r.length, r[(spotS k r).1].1 = k ∧ r[(spotS k r).1].2 = hasP r k) ∧ ((spotS k r).2 = false → hasP r k = z4)
 | [], _ => ⟨fun h => (by cases h), fun _ => rfl⟩
 | (a, y) :: r, h => by
  obtain ⟨h1, h2⟩ := List.pairwise_cons.1 h
  have ih := spotS_at (k := k) h2
  simp only [spotS]
  by_cases hb : BL a k
  ·
   simp only [hb, if_true]
   refine ⟨fun e => ?_, fun e => ?_⟩
   ·
    obtain ⟨hl, e1, e2⟩ := ih.1 e
    refine ⟨by simp only [List.length_cons]; omega, ?_, ?_⟩
    · simpa using e1
    ·
     rw [has_cons, if_neg hb.ne]
     simpa using e2
   ·
    rw [has_cons, if_neg hb.ne]
    exact ih.2 e
  ·
   simp only [hb, if_false]
   refine ⟨fun e => ?_, fun e => ?_⟩
   ·
    have ea : a = k := of_decide_eq_true e
    exact ⟨by simp, ea, by rw [has_cons, if_pos ea]; rfl⟩
   ·
    have ea : a ≠ k := of_decide_eq_false e
    have hk := BL.of_not hb ea
    rw [has_cons, if_neg ea]
    exact has_notin (fun p hp => (hk.trans (h1 p hp)).ne.symm)
set_option maxHeartbeats 4000000 in
set_option maxRecDepth 10000 in
theorem refHas (d : Nat) (u : Value) (r : Pm) (s : ByteArray) {a0 a1 a2 a3 : Int} (hi : hasP r s.data.toList = (a0, a1, a2, a3)) (w : World) (h : RvL w d u r) (hs : SortedH r) (hlen : r.length ≤ 100000) :
  Calls Tryz.prog 24 #[.pointer (some ⟨d, 0, none⟩), .string s] w fun e w' => e = .returned (.agg #[.int .i64 a0, .int .i64 a1, .int .i64 a2, .int .i64 a3]) ∧ Below w.heap.size w w' := by
 obtain ⟨W1, hW1⟩ : ∃ W1, W1 = w.alloc (.cells #[.int .i64 0, .int .i64 0, .int .i64 0, .int .i64 0] 36) := ⟨_, rfl⟩
 have hs1 : W1.heap.size = w.heap.size + 1 := by rw [hW1]; simp
 have B1 : Below w.heap.size w W1 := by rw [hW1]; exact (Below.refl _ _).alloc (Nat.le_refl _) _
 have P1 : Whl W1 w.heap.size 36 #[.int .i64 0, .int .i64 0, .int .i64 0, .int .i64 0] := by rw [hW1]; exact Whl.new rfl
 have hL1 : RvL W1 d u r := ⟨bkeep B1 h.c0 h.low, row_belowR h.row B1, by have := h.low; omega⟩
 have hat := spotS_at (k := s.data.toList) hs
 obtain ⟨A, c, rfl, _, _, _⟩ := own_slice h.row
 have hlow := h.low
 have hc0 := h.c0
 have HROW := Lib.hid h.row
 have HL1 := Lib.hid hL1
 have HB1 := Lib.hid B1
 have HP1 := Lib.hid P1
 have HAT := Lib.hid hat
 have HI := Lib.hid hi
 have hsl := spotS_le s.data.toList r
 obtain ⟨i, hii⟩ : ∃ x, x = (spotS s.data.toList r).1 := ⟨_, rfl⟩
 obtain ⟨fd, hfd⟩ : ∃ x, x = (spotS s.data.toList r).2 := ⟨_, rfl⟩
 have HE := Lib.hid (And.intro hii hfd)
 rw [← hii, ← hfd] at hat hsl
 clear h hs hL1 B1 P1 hi
 cases fd with
 | false =>
  have hz := hat.2 rfl
  rw [HI.out] at hz
  simp only [z4, Prod.mk.injEq] at hz
  obtain ⟨rfl, rfl, rfl, rfl⟩ := hz
  clear hat hsl hii hfd
  go_enter Tryz.func24, Tryz.ntmps24
  go_wp2_with (first
   | (go_at_call 69; rw [← hW1]; clear hW1; go_loud (refine (refSpot d _ r s _ HL1.out hlen).mono ?_; rintro e w2 ⟨he, hb2⟩; rw [← HE.out.1, ← HE.out.2] at he; subst he; have hs2 := hb2.size; have P2 := HP1.out.below hb2 (by omega); have z0 := P2.cell 0; have z1 := P2.cell 1; have z2 := P2.cell 2; have z3 := P2.cell 3; have hfr := fun o => P2.free o; simp only [List.getElem?_toArray, List.getElem?_cons_succ, List.getElem?_cons_zero] at z0 z1 z2 z3; have HB2 := Lib.hid (HB1.out.trans (hb2.mono (by omega))); clear hb2 P2))
   | fail)
  have hbw := HB2.out
  refine bodyPost_ret (v := .agg #[.int .i64 0, .int .i64 0, .int .i64 0, .int .i64 0]) (by simp [results, Tryz.results24, go_sem, ↓IntWalk.iteOmega, *]) rfl ⟨rfl, by exact tB⟩
 | true =>
  obtain ⟨hil, _, hv⟩ := hat.1 rfl
  rw [HI.out] at hv
  have q1 : (i : Int) < (r.length : Int) := by omega
  cases A with
  | none => have := HROW.out.2; rcases this with ⟨_, h0⟩ | ⟨g0, _, _, e, _⟩; (exact absurd h0 (by omega)); injection e with e; cases e
  | some ad =>
  obtain ⟨gq, cq, e1, hq5, hq6, _, _⟩ := own_form HROW.out (by omega)
  simp only [Value.slice.injEq, Option.some.injEq, true_and] at e1
  obtain ⟨rfl, rfl⟩ := e1
  obtain ⟨_, x0, x1, x2, x3⟩ := flatH_at r i hil
  rw [hv] at x0 x1 x2 x3
  have HF := Lib.hid (And.intro x0 (And.intro x1 (And.intro x2 x3)))
  clear hat hsl hii hfd hv x0 x1 x2 x3
  go_enter Tryz.func24, Tryz.ntmps24
  go_wp2_with (first
   | (go_at_call 69; rw [← hW1]; clear hW1; go_loud (refine (refSpot d _ r s _ HL1.out hlen).mono ?_; rintro e w2 ⟨he, hb2⟩; rw [← HE.out.1, ← HE.out.2] at he; subst he; have hs2 := hb2.size; have P2 := HP1.out.below hb2 (by omega); have z0 := P2.cell 0; have z1 := P2.cell 1; have z2 := P2.cell 2; have z3 := P2.cell 3; have hfr := fun o => P2.free o; simp only [List.getElem?_toArray, List.getElem?_cons_succ, List.getElem?_cons_zero] at z0 z1 z2 z3; have hBB := HB1.out.trans (hb2.mono (show w.heap.size ≤ W1.heap.size by omega)); have HB2 := Lib.hid hBB; have c2 := bkeep hBB hc0 hlow; have hrow := row_belowR HROW.out hBB; have y0 := (hrow.cellAt (i * 5 + 1) (by omega)).trans HF.out.1; have y1 := (hrow.cellAt (i * 5 + 2) (by omega)).trans HF.out.2.1; have y2 := (hrow.cellAt (i * 5 + 3) (by omega)).trans HF.out.2.2.1; have y3 := (hrow.cellAt (i * 5 + 4) (by omega)).trans HF.out.2.2.2; clear hb2 P2 hBB hrow))
   | fail)
  have hbw := HB2.out
  refine bodyPost_ret (v := .agg #[.int .i64 a0, .int .i64 a1, .int .i64 a2, .int .i64 a3]) (by simp [results, Tryz.results24, go_sem, ↓IntWalk.iteOmega, *]) rfl ⟨rfl, by exact tB⟩
end Go.Proofs.YtdlbiobjnohfbaaGreat
