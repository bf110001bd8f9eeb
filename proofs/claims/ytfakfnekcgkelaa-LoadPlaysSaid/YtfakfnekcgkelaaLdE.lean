/- A load's keys, sorted. -/
import Derived.Test.YtfakfnekcgkelaaLdD
import Derived.Test.YtfakfnekcgkelaaSortedAt2
namespace Go.Proofs.Ytfakfnekcgkelaa
open Go.RowKit Go.MapKept
set_option linter.unusedVariables false
set_option linter.unusedSimpArgs false

theorem sortB_of {ks ms : List By} (hp : ms.Perm ks) (hs : ms.Pairwise (fun a b => a < b)) : sortB ks = ms := by
  refine List.Perm.eq_of_pairwise (le := fun a b => leB a b = true) ?_ (sortB_sorted ks) ?_ ((sortB_perm ks).trans hp.symm)
  · intro a b _ _ h1 h2
    simp only [leB, decide_eq_true_eq] at h1 h2
    exact List.le_antisymm h1 h2
  · exact hs.imp (fun h => by simp only [leB, decide_eq_true_eq]; exact List.le_of_lt h)
theorem sortI_of {ks ms : List Int} (hp : ms.Perm ks) (hs : ms.Pairwise (fun a b => a < b)) : sortI ks = ms := by
  refine List.Perm.eq_of_pairwise (le := fun a b => leI a b = true) ?_ (sortI_sorted ks) ?_ ((sortI_perm ks).trans hp.symm)
  · intro a b _ _ h1 h2
    simp only [leI, decide_eq_true_eq] at h1 h2
    omega
  · exact hs.imp (fun h => by simp only [leI, decide_eq_true_eq]; omega)
theorem sortedKeysOf {P : Program} {f g : FuncId} {kt : TypeId} (S : SortedKeysAt P f g kt) {W : World} {Bm b : Nat} {l m : Km} (hM : MapOf encStr W b (vKm l)) (hn : (l.map (·.1)).Nodup) (hg : ∀ k, get1 k l = get1 k m) (hm : OKm m) (hB : Bm < W.heap.size) (hc : W.cell? ⟨Bm, 0, none⟩ = some (.map (some b))) :
    Calls P f #[.func (.func g) #[] #[.pointer (some ⟨Bm, 0, none⟩)]] W fun e w' => ∃ v, e = .returned v ∧ w'.ownsRow W.heap.size kt 1 v m.length ((m.map (·.1)).map encStr) ∧ Below W.heap.size W w' := by
  have hnm := hm.sorted.nodup sB
  have hperm := perm_of_get hn hnm hg
  obtain ⟨es, cl, hb, he, hlt, hnd⟩ := hM
  have hkeys : es.toList.map (·.key) = (l.map (fun p => (⟨p.1.toArray⟩ : ByteArray))).map Value.string := by
    have := congrArg (List.map (fun q : Value × Value => q.1)) he
    simp only [List.map_map, vKm] at this
    rw [List.map_map]; exact this
  have hsz : es.size = m.length := by
    have := congrArg List.length he
    simp [vKm] at this
    rw [← hperm.length_eq]; omega
  have hbytes : (l.map (fun p => (⟨p.1.toArray⟩ : ByteArray))).map (fun k => k.data.toList) = l.map (·.1) := by simp [Function.comp]
  obtain ⟨D0, hown, hp, hs0⟩ := owns_of S.str hb hkeys hlt hnd (by
    have : ((l.map (fun p => (⟨p.1.toArray⟩ : ByteArray))).map (fun k => k.data.toList)).Nodup := by rw [hbytes]; exact hn
    exact (List.Pairwise.of_map (fun k : ByteArray => k.data.toList) (fun a b h e => h (by rw [e])) this)) (by rw [hsz]; have := hm.len; omega) (by
    intro k hk
    obtain ⟨p, hp, rfl⟩ := List.mem_map.1 hk
    have := hm.cnt p (hperm.mem_iff.1 hp)
    show p.1.toArray.size ≤ 1000
    simp; omega)
  rw [hbytes] at hp
  refine (S.some W Bm b es.size D0 _ hB hc hown (by rw [hs0, hsz]; have := hm.len; omega)).mono ?_
  rintro e w' ⟨v, ss, rfl, hperm2, hrow, _, hbel⟩
  have hss : ss.Perm (m.map (·.1)) := hperm2.trans (hp.symm.trans (hperm.map _))
  rw [mergeSort_eq hss, sortB_of (List.Perm.refl _) (by
    have := hm.sorted
    unfold SortedA at this
    rw [List.pairwise_map]
    exact this), show ss.length = m.length by rw [hss.length_eq]; simp] at hrow
  exact ⟨v, rfl, hrow, hbel⟩
theorem sortedIntsOf {P : Program} {f g : FuncId} {kt : TypeId} (S : SortedIntsAt P f g kt) {W : World} {Bm b : Nat} {E : Ez} {K : Ks} (hM : MapOf encI W b (vEz E)) (hr : Rep (zEz E) K) (hlen : K.length ≤ 1000) (hwf : ∀ p ∈ K, (Lit.int .i64 p.1).wf = true) (hB : Bm < W.heap.size) (hc : W.cell? ⟨Bm, 0, none⟩ = some (.map (some b))) :
    Calls P f #[.func (.func g) #[] #[.pointer (some ⟨Bm, 0, none⟩)]] W fun e w' => ∃ v, e = .returned v ∧ w'.ownsRow W.heap.size kt 1 v K.length ((K.map (·.1)).map encZ) ∧ Below W.heap.size W w' := by
  have hperm : (E.map (·.1)).Perm (K.map (·.1)) := by
    rw [← keysE]
    rw [List.perm_ext_iff_of_nodup hr.1 (hr.2.1.sorted.nodup sI)]
    intro z
    have := hr.2.2 z
    have e1 : z ∈ (zEz E).map (·.1) ↔ get1 z (zEz E) ≠ none := by rw [ne_eq, get1_none]; simp
    have e2 : z ∈ K.map (·.1) ↔ get1 z K ≠ none := by rw [ne_eq, get1_none]; simp
    rw [e1, e2]
    cases h1 : get1 z (zEz E) <;> cases h2 : get1 z K <;> rw [h1, h2] at this <;> simp_all [RelO]
  obtain ⟨es, cl, hb, he, hlt, hnd⟩ := hM
  have hkeys : es.toList.map (·.key) = (E.map (·.1)).map (Value.int .i64) := by
    have := congrArg (List.map (fun q : Value × Value => q.1)) he
    simp only [List.map_map, vEz] at this
    rw [List.map_map]; exact this
  have hsz : es.size = K.length := by
    have := congrArg List.length he
    have h2 := hperm.length_eq
    simp [vEz] at this h2
    omega
  obtain ⟨D0, hown, hp, hs0⟩ := owns_ofI S.str hb hkeys hlt hnd (by rw [← keysE]; exact hr.1) (by rw [hsz]; exact hlen) (by
    intro k hk
    obtain ⟨p, hp, rfl⟩ := List.mem_map.1 (hperm.mem_iff.1 hk)
    exact hwf p hp)
  refine (S.some W Bm b es.size D0 _ hB hc hown (by rw [hs0, hsz]; omega)).mono ?_
  rintro e w' ⟨v, ss, rfl, hperm2, hrow, _, hbel⟩
  have hss : ss.Perm (K.map (·.1)) := hperm2.trans (hp.symm.trans hperm)
  rw [mergeSort_eqI hss, sortI_of (List.Perm.refl _) (by
    have := hr.2.1.sorted
    unfold SortedA at this
    rw [List.pairwise_map]
    exact this), show ss.length = K.length by rw [hss.length_eq]; simp] at hrow
  exact ⟨v, rfl, hrow, hbel⟩
theorem keysB (m : Option Nat) (w : World) : Calls Try.prog 27 #[.map m] w fun e w' => e = .returned (.func (.func 33) #[] #[.pointer (some ⟨w.heap.size, 0, none⟩)]) ∧ Whl w' w.heap.size 48 #[.map m] ∧ Below w.heap.size w w' := by
  go_enter Try.func27, Try.ntmps27
  go_wp2_with fail
  go_ret
  exact ⟨rfl, Whl.new rfl, by ((repeat (first | (with_reducible exact Below.refl _ _) | (with_reducible assumption) | ((with_reducible refine b_set ?_ ?_); · (first | omega | (simp; done) | (simp; omega))) | ((with_reducible refine b_alloc ?_ ?_); · (first | omega | (simp; done) | (simp; omega))) | (with_reducible refine Below.drew ?_) | (with_reducible refine b_drewN ?_) | ((with_reducible refine b_call (by assumption) ?_ ?_); · (first | omega | (simp; done) | (simp; omega))))); done)⟩
theorem keysI (m : Option Nat) (w : World) : Calls Try.prog 21 #[.map m] w fun e w' => e = .returned (.func (.func 25) #[] #[.pointer (some ⟨w.heap.size, 0, none⟩)]) ∧ Whl w' w.heap.size 45 #[.map m] ∧ Below w.heap.size w w' := by
  go_enter Try.func21, Try.ntmps21
  go_wp2_with fail
  go_ret
  exact ⟨rfl, Whl.new rfl, by ((repeat (first | (with_reducible exact Below.refl _ _) | (with_reducible assumption) | ((with_reducible refine b_set ?_ ?_); · (first | omega | (simp; done) | (simp; omega))) | ((with_reducible refine b_alloc ?_ ?_); · (first | omega | (simp; done) | (simp; omega))) | (with_reducible refine Below.drew ?_) | (with_reducible refine b_drewN ?_) | ((with_reducible refine b_call (by assumption) ?_ ?_); · (first | omega | (simp; done) | (simp; omega))))); done)⟩
end Go.Proofs.Ytfakfnekcgkelaa
