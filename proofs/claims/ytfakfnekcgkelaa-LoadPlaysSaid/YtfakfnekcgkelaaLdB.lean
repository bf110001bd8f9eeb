/- A load in memory; New; Hit. -/
import Derived.Test.YtfakfnekcgkelaaLdA
import Derived.Test.YtfakfnekcgkelaaWhl
namespace Go.Proofs.Ytfakfnekcgkelaa
open Go.RowKit Go.MapKept
open Go.ChangeMaps (setBlock)
set_option linter.unusedVariables false
set_option linter.unusedSimpArgs false

theorem bytes_data (s : ByteArray) : encStr s.data.toList = .string s := by
  cases s; simp [encStr]
theorem findNow_by (a : By) : ∀ (es : List MapEntry) (l : List (By × Value)) (i : Nat), es.map (fun e => (e.key, e.val)) = l.map (fun p => (encStr p.1, p.2)) → Instr.findNow .string (encStr a) es i = some (find1 a l i)
  | [], [], i, h => rfl
  | [], _ :: _, i, h => by simp at h
  | _ :: _, [], i, h => by simp at h
  | e :: r, (x, v) :: l, i, h => by
    simp only [List.map_cons, List.cons.injEq, Prod.mk.injEq] at h
    obtain ⟨⟨h1, h2⟩, h3⟩ := h
    simp only [Instr.findNow, h1, encStr, Instr.sameNow, find1, h2]
    by_cases hx : x = a
    · subst hx; rw [if_pos rfl, (bytes_beq ⟨x.toArray⟩ ⟨x.toArray⟩).2 rfl]
    · have : ((⟨a.toArray⟩ : ByteArray) == ⟨x.toArray⟩) = false := by
        cases hb : ((⟨a.toArray⟩ : ByteArray) == ⟨x.toArray⟩) with
        | false => rfl
        | true =>
          have := (bytes_beq _ _).1 hb
          injection this with this
          exact absurd (by simpa using this.symm) hx
      rw [this, if_neg hx]
      exact findNow_by a r l (i + 1) h3
theorem by_key {P : Program} {kt : TypeId} (hk : P.underlying kt = some .string) : KeyT P kt encStr where
  check e a w := run_checkKey hk (by simp [encStr, IsKey]) e 9999
  find es l a w h := by
    unfold Instr.findKey
    simp only [Sem.run_bind, run_underlying hk w, Result.andThen_ok, findNow_by a es l 0 h]
    rfl
  stays a w := run_keyThatStays (d := .string) (by simp [encStr, IsKey])
theorem kI : KeyT Try.prog 3 encI := int_key Try.underlying3
theorem kB : KeyT Try.prog 9 encStr := by_key Try.underlying9
theorem enc_inj : ∀ a b : By, encStr a = encStr b → a = b := fun a b h => by simp only [encStr] at h; injection h with h; injection h with h; simpa using h

abbrev Ez := List (Int × Nat × Km)
def vKm (l : Km) : List (By × Value) := l.map fun p => (p.1, .int .i64 p.2)
def vEz (E : Ez) : List (Int × Value) := E.map fun e => (e.1, .map (some e.2.1))
def zEz (E : Ez) : Ks := E.map fun e => (e.1, e.2.2)
/-- the zones' maps: the map that names them, each of theirs; all blocks apart -/
structure LdM (w : World) (b g : Nat) (E : Ez) : Prop where
  top : MapOf encI w g (vEz E)
  each : ∀ e ∈ E, MapOf encStr w e.2.1 (vKm e.2.2)
  nd : (b :: g :: E.map (·.2.1)).Nodup
/-- block b is a load that is K; the blocks fp are its maps -/
def LdH (w : World) (b : Nat) (fp : List Nat) (K : Ks) : Prop :=
  (Whl w b 47 #[.map none] ∧ fp = [] ∧ K = []) ∨
  ∃ g E, Whl w b 47 #[.map (some g)] ∧ fp = g :: E.map (·.2.1) ∧ LdM w b g E ∧ Rep (zEz E) K
theorem LdH.low {w : World} {b : Nat} {fp : List Nat} {K : Ks} (h : LdH w b fp K) : b < w.heap.size := by
  rcases h with ⟨h, _⟩ | ⟨g, E, h, _⟩ <;> exact h.low
theorem LdH.lows {w : World} {b : Nat} {fp : List Nat} {K : Ks} (h : LdH w b fp K) : ∀ g ∈ fp, g < w.heap.size := by
  rcases h with ⟨_, rfl, _⟩ | ⟨g, E, _, rfl, hm, _⟩
  · simp
  · intro x hx
    rcases List.mem_cons.1 hx with rfl | hx
    · exact hm.top.lt
    · obtain ⟨e, he, rfl⟩ := List.mem_map.1 hx
      exact (hm.each e he).lt
theorem LdH.oks {w : World} {b : Nat} {fp : List Nat} {K : Ks} (h : LdH w b fp K) : OKs K := by
  rcases h with ⟨_, _, rfl⟩ | ⟨g, E, _, _, _, hr⟩
  · exact OKs.nil
  · exact hr.2.1
/-- what touches none of its blocks leaves a load as it is -/
theorem LdH.keep {D : Nat → Prop} {w w' : World} {b : Nat} {fp : List Nat} {K : Ks} (h : LdH w b fp K) (ht : Touch D w w') (hb : ¬ D b) (hf : ∀ g ∈ fp, ¬ D g) : LdH w' b fp K := by
  have h2 := h.lows
  rcases h with ⟨h1, rfl, rfl⟩ | ⟨g, E, h1, rfl, hm, hr⟩
  · exact .inl ⟨(ht.block b h1.low hb).trans h1, rfl, rfl⟩
  · refine .inr ⟨g, E, (ht.block b h1.low hb).trans h1, rfl, ⟨hm.top.block (ht.block g hm.top.lt (hf g List.mem_cons_self)), fun e he => (hm.each e he).block (ht.block _ (hm.each e he).lt (hf _ (List.mem_cons_of_mem _ (List.mem_map.2 ⟨e, he, rfl⟩)))), hm.nd⟩, hr⟩
theorem newLoad (w : World) : Calls Try.prog 6 #[] w fun e w' => e = .returned (.pointer (some ⟨w.heap.size, 0, none⟩)) ∧ LdH w' w.heap.size [] [] ∧ Below w.heap.size w w' := by
  go_enter Try.func6, Try.ntmps6
  go_wp2_with fail
  go_ret
  exact ⟨rfl, .inl ⟨Whl.new rfl, rfl, rfl⟩, by ((repeat (first | (with_reducible exact Below.refl _ _) | (with_reducible assumption) | ((with_reducible refine b_set ?_ ?_); · (first | omega | (simp; done) | (simp; omega))) | ((with_reducible refine b_alloc ?_ ?_); · (first | omega | (simp; done) | (simp; omega))) | (with_reducible refine Below.drew ?_) | (with_reducible refine b_drewN ?_) | ((with_reducible refine b_call (by assumption) ?_ ?_); · (first | omega | (simp; done) | (simp; omega))))); done)⟩
end Go.Proofs.Ytfakfnekcgkelaa
