/- vault: pure: whose purses and orders there are; what all of them come to. vault: slices.Sorted(maps.Keys(m)) at this program. Plain facts on the order of texts, byte by byte. vault: pure: its rows by their names. -/
import Derived.Test.YtdlbiobjnohfbaaGreatLayK
import Derived.Test.YtdlbiobjnohfbaaGreatVd30
namespace Go.Proofs.YtdlbiobjnohfbaaGreat
open Go.RowKit Go.ChangeMaps Go.MapKept
set_option linter.unusedVariables false
set_option linter.unusedSimpArgs false
theorem len_names : ∀ {ks N : List By}, ks.Nodup → (∀ k ∈ ks, k ∈ N) → ks.length ≤ N.length
  | [], N, _, _ => Nat.zero_le _
  | k :: r, N, hn, h => by
    obtain ⟨h1, h2⟩ := List.nodup_cons.1 hn
    have hk : k ∈ N := h k List.mem_cons_self
    have h3 := len_names (N := N.erase k) h2 (fun x hx => by
      have hne : x ≠ k := fun e => h1 (e ▸ hx)
      exact (List.mem_erase_of_ne hne).2 (h x (List.mem_cons_of_mem _ hx)))
    have he := List.length_erase_of_mem hk
    have hp : 0 < N.length := List.length_pos_of_mem hk
    simp only [List.length_cons]; omega
theorem setP_names {l : Pm} {k : By} {i : It4} {N : List By} (h : ∀ p ∈ l, p.1 ∈ N) (hk : k ∈ N) : ∀ p ∈ setP l k i, p.1 ∈ N := by
  intro p hp
  unfold setP at hp
  split at hp
  · exact h p (del1_keys p hp)
  · rcases put1_mem p hp with rfl | hp
    · exact hk
    · exact h p hp
def NmO (N : List By) (o : Od) : Prop := o.who.data.toList ∈ N
/-- all names are among these -/
def Nms (N : List By) (l : Pm) (L : List Od) : Prop := (∀ p ∈ l, p.1 ∈ N) ∧ ∀ o ∈ L, NmO N o
theorem Nms.nil : Nms [] [] [] := ⟨fun p h => (by cases h), fun p h => (by cases h)⟩
theorem Nms.more {N : List By} {l : Pm} {L : List Od} (h : Nms N l L) (k : By) : Nms (k :: N) l L := ⟨fun p hp => List.mem_cons_of_mem _ (h.1 p hp), fun o ho => List.mem_cons_of_mem _ (h.2 o ho)⟩
theorem Nms.set {N : List By} {l : Pm} {L : List Od} (h : Nms N l L) (k : By) (i : It4) : Nms (k :: N) (setP l k i) L := ⟨setP_names (h.more k).1 List.mem_cons_self, (h.more k).2⟩
theorem Nms.len {N : List By} {l : Pm} {L : List Od} (h : Nms N l L) (hn : (l.map (·.1)).Nodup) : l.length ≤ N.length := by
  have := len_names hn (N := N) (fun k hk => by obtain ⟨p, hp, rfl⟩ := List.mem_map.1 hk; exact h.1 p hp)
  simpa using this
end Go.Proofs.YtdlbiobjnohfbaaGreat
namespace Go.Proofs.YtdlbiobjnohfbaaGreat
open Go.RowKit Go.Maps Go.MapKept Go.Sort Go.Shelf
open Go.Proofs
open Go.WideElems (Fit rg)
open Go.WideMaps (keyOf_string_mk)
set_option linter.unusedVariables false
set_option linter.unusedSimpArgs false
set_option maxRecDepth 100000
/-- a sort that the kernel can run -/
def insB (x : List UInt8) : List (List UInt8) → List (List UInt8)
  | [] => [x]
  | y :: r => if leB x y then x :: y :: r else y :: insB x r
def sortB : List (List UInt8) → List (List UInt8)
  | [] => []
  | x :: r => insB x (sortB r)
theorem insB_perm (x : List UInt8) : ∀ l, (insB x l).Perm (x :: l)
  | [] => List.Perm.refl _
  | y :: r => by
    unfold insB
    split
    · exact List.Perm.refl _
    · exact ((insB_perm x r).cons y).trans (List.Perm.swap x y r)
theorem sortB_perm : ∀ l, (sortB l).Perm l
  | [] => List.Perm.refl _
  | x :: r => (insB_perm x _).trans ((sortB_perm r).cons x)
theorem leB_trans (a b c : List UInt8) (h1 : leB a b = true) (h2 : leB b c = true) : leB a c = true := by simp only [leB, decide_eq_true_eq] at *; exact List.le_trans h1 h2
theorem leB_total (a b : List UInt8) : (leB a b || leB b a) = true := by simp only [leB, Bool.or_eq_true, decide_eq_true_eq]; exact List.le_total a b
theorem insB_sorted (x : List UInt8) : ∀ l, l.Pairwise (fun a b => leB a b = true) → (insB x l).Pairwise (fun a b => leB a b = true)
  | [], _ => by simp [insB]
  | y :: r, h => by
    have hy := List.pairwise_cons.1 h
    unfold insB
    split
    · rename_i hxy
      refine List.pairwise_cons.2 ⟨fun z hz => ?_, h⟩
      rcases List.mem_cons.1 hz with rfl | hz
      · exact hxy
      · exact leB_trans _ _ _ hxy (hy.1 z hz)
    · rename_i hxy
      refine List.pairwise_cons.2 ⟨fun z hz => ?_, insB_sorted x r hy.2⟩
      rcases List.mem_cons.1 ((insB_perm x r).mem_iff.1 hz) with rfl | hz
      · have := leB_total z y
        rw [Bool.or_eq_true] at this
        exact this.resolve_left hxy
      · exact hy.1 z hz
theorem sortB_sorted : ∀ l, (sortB l).Pairwise (fun a b => leB a b = true)
  | [] => List.Pairwise.nil
  | x :: r => insB_sorted x _ (sortB_sorted r)
theorem mergeSort_eq {ss l : List (List UInt8)} (h : ss.Perm l) : ss.mergeSort leB = sortB l := by
  rw [mergeSort_of_perm (h.trans (sortB_perm l).symm)]
  exact List.mergeSort_of_pairwise (sortB_sorted l)
/-- what the library says of slices.Sorted(maps.Keys(m)) at a map type of text keys: f: slices.Sorted, g: what maps.Keys hands back -/
structure SortedKeysAt (P : Program) (f g : FuncId) (kt : TypeId) : Prop where
  str : P.underlying kt = some .string
  some : ∀ (W : World) (Bm b nn : Nat) (D0 : DataW Unit) (R : Value → Option (DataW Unit × List MemPlace)), Bm < W.heap.size → W.cell? ⟨Bm, 0, none⟩ = some (.map (some b)) → W.ownsMap P kt R b nn D0 → Maps.size D0 ≤ 1000000 →
    Calls P f #[.func (.func g) #[] #[.pointer (some ⟨Bm, 0, none⟩)]] W fun e w' => ∃ (v : Value) (ss : List (List UInt8)), e = .returned v ∧ ss.Perm (strKeys D0) ∧
      w'.ownsRow W.heap.size kt 1 v ss.length ((ss.mergeSort leB).map encStr) ∧ (v = .slice none 0 0 ↔ ss = []) ∧ Below W.heap.size W w'
theorem owns_of {P : Program} {kt : TypeId} (hs : P.underlying kt = some .string) {w : World} {b cl : Nat} {es' : Array MapEntry} {ks : List ByteArray} (hb : w.heap[b]? = some (.map es' cl)) (hk : es'.toList.map (·.key) = ks.map Value.string)
    (h1 : ∀ x ∈ es'.toList, x.born < cl) (h2 : (es'.toList.map (·.born)).Nodup) (h3 : ks.Nodup) (h4 : es'.size ≤ 1000) (h5 : ∀ k ∈ ks, k.size ≤ 1000) :
    ∃ D0 : DataW Unit, w.ownsMap P kt (fun _ => some (.nil, [])) b es'.size D0 ∧ (ks.map fun k => k.data.toList).Perm (strKeys D0) ∧ Maps.size D0 = es'.size := by
  have hkey : ∀ x ∈ es'.toList, ∃ s ∈ ks, x.key = .string s := fun x hx => by
    have : x.key ∈ es'.toList.map (·.key) := List.mem_map.2 ⟨x, hx, rfl⟩
    rw [hk] at this
    obtain ⟨s, h, e⟩ := List.mem_map.1 this
    exact ⟨s, h, e.symm⟩
  have hrd : ∀ x ∈ es'.toList, ∀ s, x.key = .string s → s ∈ ks → Go.WideElems.rd P kt (fun _ => some ((.nil : DataW Unit), [])) x = some (.string s.data.toList, .nil) := fun x hx s e hs' => by
    unfold Go.WideElems.rd
    rw [e, keyOf_string_mk hs (by have := h5 s hs'; unfold maxLen; omega)]
    rfl
  have F : Fit P kt (fun _ => some ((.nil : DataW Unit), [])) es' cl := ⟨by unfold maxLen; omega, ⟨h1, h2, by
      rw [hk]
      unfold List.Nodup at h3 ⊢
      rw [List.pairwise_map]
      exact h3.imp (fun hne e => hne (by injection e))⟩, fun x hx => by
      obtain ⟨s, hs', e⟩ := hkey x hx
      exact ⟨_, hrd x hx s e hs'⟩⟩
  refine ⟨_, ⟨es', cl, hb, F, Nat.le_refl _, rfl⟩, ?_, ?_⟩
  · unfold strKeys
    have hp := (WideShapes.sorted_perm (es'.toList.map (rg P kt (fun _ => some ((.nil : DataW Unit), []))))).map (fun p => strOf p.1)
    refine List.Perm.trans (List.Perm.of_eq ?_) hp.symm
    have e1 : ks.map (fun k => k.data.toList) = (ks.map Value.string).map (fun v => match v with | .string s => s.data.toList | _ => []) := by rw [List.map_map]; rfl
    rw [e1, ← hk, List.map_map, List.map_map]
    refine List.map_congr_left fun x hx => ?_
    obtain ⟨s, hs', e⟩ := hkey x hx
    simp only [Function.comp, e, rg, hrd x hx s e hs', Option.getD_some, strOf]
  · show ((es'.toList.map _).foldr DataW.insert []).length = _
    rw [(WideShapes.sorted_perm _).length_eq]; simp
theorem sortsAtV (m : Nat) : AnyZ.SortsIn Tryz.prog Tryz.sorted29_ren Fence.wide m :=
  ⟨fun blk off cap ss W hH hblk hsz => callsIn_wide.2 (AnyM.slices_Sort_string Tryz.sort45 blk off cap ss W hH hblk hsz),
   fun p cap W => callsIn_wide.2 (AnyM.slices_Sort_string_none Tryz.sort45 p cap W)⟩
set_option maxHeartbeats 1000000 in
theorem sortedAtV : SortedKeysAt Tryz.prog 70 102 9 :=
  ⟨Tryz.underlying9, fun W Bm b nn D0 R hBm hcell hown hsize => by
    have hseq : SeqGives Fence.wide 2 Tryz.prog 102 #[.pointer (some ⟨Bm, 0, none⟩)] encStr (fun ss => ss.Perm (strKeys D0)) (Maps.size D0) W :=
      AnyZ.keys_gives (ρ := Tryz.keys30_ren) { Tryz.keys30 with } Fence.wide _ trivial rfl (by omega) Bm b nn D0 W hBm hcell hown
    exact (callsIn_wide (n := 5)).1 (AnyZ.sorted_in Tryz.sorted29 Fence.wide 5 trivial trivial trivial trivial rfl (by omega) (sortsAtV _) (enters_of Tryz.func101 (by kernel_rfl) rfl) 102 #[.pointer (some ⟨Bm, 0, none⟩)] trivial (enters_of Tryz.func102 (by kernel_rfl) rfl) _ _ (by unfold maxLen; omega) (by omega) _ hseq)⟩
theorem keysBV (m : Option Nat) (w : World) : Calls Tryz.prog 71 #[.map m] w fun e w' => e = .returned (.func (.func 102) #[] #[.pointer (some ⟨w.heap.size, 0, none⟩)]) ∧ Whl w' w.heap.size 74 #[.map m] ∧ Below w.heap.size w w' := by
  go_enter Tryz.func71, Tryz.ntmps71
  go_wp2_with fail
  go_ret
  exact ⟨rfl, Whl.new rfl, by ((repeat (first | (with_reducible exact Below.refl _ _) | (with_reducible assumption) | ((with_reducible refine b_set ?_ ?_); · (first | omega | (simp; done) | (simp; omega))) | ((with_reducible refine b_alloc ?_ ?_); · (first | omega | (simp; done) | (simp; omega))) | (with_reducible refine Below.drew ?_) | (with_reducible refine b_drewN ?_) | ((with_reducible refine b_call (by assumption) ?_ ?_); · (first | omega | (simp; done) | (simp; omega))))); done)⟩
end Go.Proofs.YtdlbiobjnohfbaaGreat
namespace Go.Proofs.YtdlbiobjnohfbaaGreat
theorem bytesLess_eq : ∀ (x y : List UInt8), Op.bytesLess x y = decide (x < y)
  | [], [] => by simp [Op.bytesLess]
  | _ :: _, [] => by simp [Op.bytesLess]
  | [], _ :: _ => by simp [Op.bytesLess]
  | a :: x, b :: y => by
    rw [Op.bytesLess, bytesLess_eq x y]
    simp only [List.cons_lt_cons_iff]
    by_cases h1 : a < b <;> by_cases h2 : a = b <;> by_cases h3 : x < y <;> simp [h1, h2, h3]
theorem less_irrefl (a : List UInt8) : Op.bytesLess a a = false := by rw [bytesLess_eq]; simp [List.lt_irrefl]
theorem less_trans {a b c : List UInt8} (h : Op.bytesLess a b = true) (h2 : Op.bytesLess b c = true) : Op.bytesLess a c = true := by
  rw [bytesLess_eq, decide_eq_true_iff] at *; exact List.lt_trans h h2
theorem less_asymm {a b : List UInt8} (h : Op.bytesLess a b = true) : Op.bytesLess b a = false := by
  rw [bytesLess_eq] at *; simp only [decide_eq_true_eq, decide_eq_false_iff_not] at *; exact List.lt_asymm h
theorem less_eq {a b : List UInt8} (h : Op.bytesLess a b = false) (h2 : Op.bytesLess b a = false) : a = b := by
  rw [bytesLess_eq] at *; simp only [decide_eq_false_iff_not] at *; exact List.le_antisymm (List.not_lt.1 h2) (List.not_lt.1 h)
theorem nil_less {a : List UInt8} (h : a ≠ []) : Op.bytesLess [] a = true := by cases a with | nil => exact absurd rfl h | cons x y => rfl
end Go.Proofs.YtdlbiobjnohfbaaGreat
namespace Go.Proofs.YtdlbiobjnohfbaaGreat
open Go.RowKit Go.ChangeMaps Go.MapKept
set_option linter.unusedVariables false
set_option linter.unusedSimpArgs false
theorem Tryz.infoHold : (Tryz.prog.info? 85).map (fun i => (i.zero, i.size, i.bytes)) = some (some (.agg #[.string ⟨#[]⟩, .int .i64 0, .int .i64 0, .int .i64 0, .int .i64 0]), 5, 48) := by kernel_rfl
abbrev Hd := By × It4
def rowH (r : Hd) : List Value := [encB r.1, .int .i64 r.2.1, .int .i64 r.2.2.1, .int .i64 r.2.2.2.1, .int .i64 r.2.2.2.2]
def flatH (l : List Hd) : List Value := l.flatMap rowH
theorem flatH_app (a b : List Hd) : flatH (a ++ b) = flatH a ++ flatH b := by simp [flatH]
theorem flatH_at : ∀ (l : List Hd) (j : Nat) (h : j < l.length), (flatH l)[j * 5]? = some (encB l[j].1) ∧ (flatH l)[j * 5 + 1]? = some (.int .i64 l[j].2.1) ∧ (flatH l)[j * 5 + 2]? = some (.int .i64 l[j].2.2.1) ∧ (flatH l)[j * 5 + 3]? = some (.int .i64 l[j].2.2.2.1) ∧ (flatH l)[j * 5 + 4]? = some (.int .i64 l[j].2.2.2.2)
  | [], j, h => by cases h
  | a :: r, 0, h => by simp [flatH, rowH]
  | a :: r, j + 1, h => by
    have := flatH_at r j (by simpa using h)
    have e : (j + 1) * 5 = j * 5 + 5 := by omega
    simp only [flatH, List.flatMap_cons, rowH, List.getElem_cons_succ] at this ⊢
    rw [e]
    exact this
/-- the names, in their order -/
def keysP (l : Pm) : List By := sortB (l.map (·.1))
def rowsP (l : Pm) : List Hd := (keysP l).map fun k => (k, hasP l k)
theorem keysP_len (l : Pm) : (keysP l).length = l.length := by
  have := (sortB_perm (l.map (·.1))).length_eq
  simpa [keysP] using this
theorem rowsP_len (l : Pm) : (rowsP l).length = l.length := by simp [rowsP, keysP_len]
theorem keysP_mem {l : Pm} {k : By} : k ∈ keysP l ↔ k ∈ l.map (·.1) := (sortB_perm _).mem_iff
theorem has_mem {l : Pm} (h : (l.map (·.1)).Nodup) {p : By × It4} (hp : p ∈ l) : hasP l p.1 = p.2 := by
  unfold hasP
  rw [get1_of_mem h hp]; rfl
theorem rowsP_perm {l : Pm} (h : (l.map (·.1)).Nodup) : (rowsP l).Perm l := by
  have h1 : (rowsP l).Perm ((l.map (·.1)).map fun k => (k, hasP l k)) := (sortB_perm _).map _
  refine h1.trans (List.Perm.of_eq ?_)
  rw [List.map_map]
  conv => rhs; rw [← List.map_id l]
  exact List.map_congr_left fun p hp => by show (p.1, hasP l p.1) = p; rw [has_mem h hp]
theorem rowsP_at {l : Pm} {j : Nat} (h : j < l.length) : ∃ k, (keysP l)[j]? = some k ∧ (rowsP l)[j]? = some (k, hasP l k) ∧ k ∈ l.map (·.1) := by
  have hk : j < (keysP l).length := by rw [keysP_len]; exact h
  refine ⟨(keysP l)[j], List.getElem?_eq_getElem hk, ?_, keysP_mem.1 (List.getElem_mem hk)⟩
  unfold rowsP
  rw [List.getElem?_map, List.getElem?_eq_getElem hk]; rfl
/-- one name ahead of another -/
def BL (a b : By) : Prop := Op.bytesLess a b = true
instance (a b : By) : Decidable (BL a b) := inferInstanceAs (Decidable (_ = true))
theorem BL.ne {a b : By} (h : BL a b) : a ≠ b := fun e => by subst e; unfold BL at h; rw [less_irrefl] at h; cases h
theorem BL.trans {a b c : By} (h : BL a b) (h2 : BL b c) : BL a c := less_trans h h2
def SortedH (r : Pm) : Prop := r.Pairwise fun a b => BL a.1 b.1
theorem keysP_sorted {l : Pm} (hn : (l.map (·.1)).Nodup) : (keysP l).Pairwise BL := by
  have h1 : (keysP l).Pairwise (fun a b => leB a b = true) := sortB_sorted _
  have h2 : (sortB (l.map (·.1))).Nodup := (sortB_perm (l.map (·.1))).nodup_iff.2 hn
  refine (List.Pairwise.and h1 h2).imp (fun {a b} h => ?_)
  have hle : a ≤ b := by simpa [leB] using h.1
  unfold BL
  rw [bytesLess_eq, decide_eq_true_iff]
  exact List.not_le.1 (fun h3 => h.2 (List.le_antisymm hle h3))
theorem SortedH.nodup {r : Pm} (h : SortedH r) : (r.map (·.1)).Nodup := by
  unfold List.Nodup
  rw [List.pairwise_map]
  exact h.imp (fun h => h.ne)
end Go.Proofs.YtdlbiobjnohfbaaGreat
