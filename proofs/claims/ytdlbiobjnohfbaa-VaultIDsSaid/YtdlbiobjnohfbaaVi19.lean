/- Vaults: purses as a map; a vault in memory. -/
import Derived.ProofKit
import Derived.Test.YtdlbiobjnohfbaaProg
import Derived.WalkKit
import Derived.WalkSpells
import Derived.WalkLawsBesides
import Derived.Deep.QuietTactic
import Derived.BigQuiet
import Derived.RegionTactic
import Derived.BigRegion
import Derived.Outline
import Derived.LoopTactic
import Derived.Lib.Hide
import Derived.Deep.RegionHeld3
import Derived.Laws.AppendOwnNone
import Derived.Deep.AppendLies
import Derived.Maps.AppendAt
import Derived.Laws.Rows
import Derived.Laws.OwnMore
import Derived.Deep.RegionLaw
import Derived.Deep.Onto
import Derived.Maps.Own
import Derived.Maps.RangeRun
import Derived.Carry
import Derived.Maps.Range
import Derived.Deep.DeepMust
import Derived.Test.YtdlbiobjnohfbaaVi0
import Derived.Test.YtdlbiobjnohfbaaVi1
import Derived.Test.YtdlbiobjnohfbaaVi2
import Derived.Test.YtdlbiobjnohfbaaVi3
import Derived.Test.YtdlbiobjnohfbaaVi4
import Derived.Test.YtdlbiobjnohfbaaVi5
import Derived.Test.YtdlbiobjnohfbaaVi6
import Derived.Test.YtdlbiobjnohfbaaVi7
import Derived.Test.YtdlbiobjnohfbaaVi8
import Derived.Test.YtdlbiobjnohfbaaVi9
import Derived.Test.YtdlbiobjnohfbaaVi10
import Derived.Test.YtdlbiobjnohfbaaVi11
import Derived.Test.YtdlbiobjnohfbaaVi12
import Derived.Test.YtdlbiobjnohfbaaVi13
import Derived.Test.YtdlbiobjnohfbaaVi14
import Derived.Test.YtdlbiobjnohfbaaVi15
import Derived.Test.YtdlbiobjnohfbaaVi16
import Derived.Test.YtdlbiobjnohfbaaVi17
import Derived.Test.YtdlbiobjnohfbaaVi18
namespace Go.Proofs.Ytdlbiobjnohfbaa
open Go.RowKit Go.ChangeMaps Go.MapKept
set_option linter.unusedVariables false
set_option linter.unusedSimpArgs false
abbrev By := List UInt8
def encB (l : By) : Value := .string ⟨l.toArray⟩
theorem bytes_dataB (s : ByteArray) : encB s.data.toList = .string s := by
  cases s; simp [encB]
theorem findNow_by (a : By) : ∀ (es : List MapEntry) (l : List (By × Value)) (i : Nat), es.map (fun e => (e.key, e.val)) = l.map (fun p => (encB p.1, p.2)) → Instr.findNow .string (encB a) es i = some (find1 a l i)
  | [], [], i, h => rfl
  | [], _ :: _, i, h => by simp at h
  | _ :: _, [], i, h => by simp at h
  | e :: r, (x, v) :: l, i, h => by
    simp only [List.map_cons, List.cons.injEq, Prod.mk.injEq] at h
    obtain ⟨⟨h1, h2⟩, h3⟩ := h
    simp only [Instr.findNow, h1, encB, Instr.sameNow, find1, h2]
    by_cases hx : x = a
    · subst hx; rw [if_pos rfl, (bytes_beq ⟨x.toArray⟩ ⟨x.toArray⟩).2 rfl]
    · have : ((⟨a.toArray⟩ : ByteArray) == ⟨x.toArray⟩) = false := by
        cases hb : ((⟨a.toArray⟩ : ByteArray) == ⟨x.toArray⟩) with
        | false => rfl
        | true =>
          have := (bytes_beq _ _).1 hb
          injection this with this
          exact absurd (by simpa using this.symm) hx
      rw [this, if_neg hx]
      exact findNow_by a r l (i + 1) h3
theorem by_key {P : Program} {kt : TypeId} (hk : P.underlying kt = some .string) : KeyT P kt encB where
  check e a w := run_checkKey hk (by simp [encB, IsKey]) e 9999
  find es l a w h := by
    unfold Instr.findKey
    simp only [Sem.run_bind, run_underlying hk w, Result.andThen_ok, findNow_by a es l 0 h]
    rfl
  stays a w := run_keyThatStays (d := .string) (by simp [encB, IsKey])
theorem kB : KeyT Try.prog 9 encB := by_key Try.underlying9
/-- so much of each item -/
abbrev It4 := Int × Int × Int × Int
def z4 : It4 := (0, 0, 0, 0)
def itV (i : It4) : Value := .agg #[.int .i64 i.1, .int .i64 i.2.1, .int .i64 i.2.2.1, .int .i64 i.2.2.2]
abbrev Pm := List (By × It4)
def vPm (l : Pm) : List (By × Value) := l.map fun p => (p.1, itV p.2)
def hasP (l : Pm) (k : By) : It4 := (get1 k l).getD z4
def setP (l : Pm) (k : By) (i : It4) : Pm := if i = z4 then del1 k l else put1 k i l
theorem get_vPm (k : By) (l : Pm) : (get1 k (vPm l)).getD (itV z4) = itV (hasP l k) := by
  unfold vPm hasP; rw [get1_map itV]; cases get1 k l <;> rfl
theorem put_vPm (k : By) (i : It4) (l : Pm) : put1 k (itV i) (vPm l) = vPm (put1 k i l) := by
  unfold vPm; rw [put1_map itV]
theorem del_vPm (k : By) (l : Pm) : del1 k (vPm l) = vPm (del1 k l) := by
  unfold vPm; rw [del1_map itV]
theorem put1_mem {α β : Type} [DecidableEq α] {k : α} {v : β} : ∀ {l : List (α × β)}, ∀ p ∈ put1 k v l, p = (k, v) ∨ p ∈ l
  | [], p, h => by simp [put1] at h; exact .inl h
  | (a, x) :: r, p, h => by
    simp only [put1] at h
    split at h
    · rename_i e; subst e
      rcases List.mem_cons.1 h with h | h
      · exact .inl h
      · exact .inr (List.mem_cons_of_mem _ h)
    · rcases List.mem_cons.1 h with h | h
      · exact .inr (by rw [h]; exact List.mem_cons_self)
      · rcases put1_mem p h with h | h
        · exact .inl h
        · exact .inr (List.mem_cons_of_mem _ h)
theorem put1_nodup {α β : Type} [DecidableEq α] {k : α} {v : β} : ∀ {l : List (α × β)}, (l.map (·.1)).Nodup → ((put1 k v l).map (·.1)).Nodup
  | [], h => by simp [put1]
  | (a, x) :: r, h => by
    simp only [put1]
    split
    · exact h
    · rename_i hn
      simp only [List.map_cons, List.nodup_cons] at h ⊢
      refine ⟨fun hm => ?_, put1_nodup h.2⟩
      obtain ⟨p, hp, e⟩ := List.mem_map.1 hm
      rcases put1_mem p hp with h1 | h1
      · rw [h1] at e; exact hn e.symm
      · exact h.1 (List.mem_map.2 ⟨p, h1, e⟩)
theorem setP_nodup {l : Pm} (h : (l.map (·.1)).Nodup) (k : By) (i : It4) : ((setP l k i).map (·.1)).Nodup := by
  unfold setP; split
  · exact del1_nodup h
  · exact put1_nodup h
def isI (i : It4) : Bool := isP i.1 i.2.1 i.2.2.1 i.2.2.2
def KeyOk (k : By) : Prop := 1 ≤ k.length ∧ k.length ≤ 16
/-- purses as they may be: each name once, none is empty -/
def PmOk (l : Pm) : Prop := (l.map (·.1)).Nodup ∧ ∀ p ∈ l, p.2 ≠ z4 ∧ isI p.2 = true ∧ KeyOk p.1
theorem PmOk.nil : PmOk [] := ⟨List.nodup_nil, by simp⟩
theorem PmOk.set {l : Pm} (h : PmOk l) {k : By} (hk : KeyOk k) {i : It4} (hi : isI i = true) : PmOk (setP l k i) := by
  refine ⟨setP_nodup h.1 k i, fun p hp => ?_⟩
  unfold setP at hp
  split at hp
  · exact h.2 p (del1_keys p hp)
  · rename_i hn
    rcases put1_mem p hp with e | e
    · rw [e]; exact ⟨hn, hi, hk⟩
    · exact h.2 p e
theorem PmOk.has {l : Pm} (h : PmOk l) (k : By) : isI (hasP l k) = true := by
  unfold hasP
  cases hg : get1 k l with
  | none => rfl
  | some v => exact (h.2 _ (get1_mem hg)).2.1
/-- this value is a map of these purses -/
def PuH (w : World) (p : Value) (l : Pm) : Prop := (p = .map none ∧ l = []) ∨ ∃ m, p = .map (some m) ∧ MapOf encB w m (vPm l)
/-- the block of a map -/
def mb : Value → Option Nat
  | .map (some m) => some m
  | _ => none
/-- block b is a vault: its purses are l, its book has sides S; so many IDs were given out -/
structure VtH (w : World) (b : Nat) (p : Value) (v : Nat → Value) (S : Nat → List Od) (l : Pm) (last gone : Int) : Prop where
  bk : BkH (lay1 p (.int .i64 gone)) w b v S last
  pu : PuH w p l
  ok : PmOk l
  ne : mb p ≠ some b
  apart : ∀ i, i < 8 → ∀ x, (v i).ownBlock = some x → mb p ≠ some x
/-- the blocks of a vault -/
def Fv (b : Nat) (p : Value) (v : Nat → Value) (x : Nat) : Prop := Ft b v x ∨ mb p = some x
theorem VtH.cell {w : World} {b : Nat} {p : Value} {v : Nat → Value} {S : Nat → List Od} {l : Pm} {last gone : Int} (h : VtH w b p v S l last gone) : w.cell? ⟨b, 0, none⟩ = some p := h.bk.whl.cell 0
theorem VtH.cellG {w : World} {b : Nat} {p : Value} {v : Nat → Value} {S : Nat → List Od} {l : Pm} {last gone : Int} (h : VtH w b p v S l last gone) : w.cell? ⟨b, 10, none⟩ = some (.int .i64 gone) := h.bk.whl.cell 10
theorem PuH.lows {w : World} {p : Value} {l : Pm} (h : PuH w p l) : ∀ x, mb p = some x → x < w.heap.size := by
  rcases h with ⟨rfl, _⟩ | ⟨m, rfl, h⟩
  · intro x hx; cases hx
  · intro x hx; simp only [mb, Option.some.injEq] at hx; subst hx; exact h.lt
theorem PuH.keep {D : Nat → Prop} {w w' : World} {p : Value} {l : Pm} (h : PuH w p l) (ht : Touch D w w') (hD : ∀ x, mb p = some x → ¬ D x) : PuH w' p l := by
  rcases h with h | ⟨m, rfl, h⟩
  · exact .inl h
  · exact .inr ⟨m, rfl, h.block (ht.block m h.lt (hD m rfl))⟩
theorem VtH.lows {w : World} {b : Nat} {p : Value} {v : Nat → Value} {S : Nat → List Od} {l : Pm} {last gone : Int} (h : VtH w b p v S l last gone) : ∀ x, Fv b p v x → x < w.heap.size := by
  rintro x (hx | hx)
  · exact h.bk.lows x hx
  · exact h.pu.lows x hx
theorem VtH.keep {D : Nat → Prop} {w w' : World} {b : Nat} {p : Value} {v : Nat → Value} {S : Nat → List Od} {l : Pm} {last gone : Int} (h : VtH w b p v S l last gone) (ht : Touch D w w') (hD : ∀ x, Fv b p v x → ¬ D x) : VtH w' b p v S l last gone :=
  ⟨h.bk.keep ht (fun x hx => hD x (.inl hx)), h.pu.keep ht (fun x hx => hD x (.inr hx)), h.ok, h.ne, h.apart⟩
theorem VtH.below {w w' : World} {b : Nat} {p : Value} {v : Nat → Value} {S : Nat → List Od} {l : Pm} {last gone : Int} (h : VtH w b p v S l last gone) (hb : Below w.heap.size w w') : VtH w' b p v S l last gone :=
  h.keep (Touch.of_below hb) (fun x hx hd => by have := h.lows x hx; omega)
/-- its map has become another one: a store into it, or a new one -/
theorem VtH.other {w w' : World} {b : Nat} {p p' : Value} {v : Nat → Value} {S : Nat → List Od} {l l' : Pm} {last gone : Int} (h : VtH w b p v S l last gone)
    (ht : Touch (fun x => x = b ∨ mb p = some x) w w') (hw : Whl w' b 54 ((lay1 p' (.int .i64 gone)).C v last)) (hp : PuH w' p' l') (hok : PmOk l') (hn : mb p' = mb p ∨ ∀ x, mb p' = some x → w.heap.size ≤ x) :
    VtH w' b p' v S l' last gone ∧ Touch (Fv b p v) w w' ∧ (∀ x, Fv b p' v x → Fv b p v x ∨ w.heap.size ≤ x) := by
  have hlow := h.lows
  refine ⟨⟨⟨hw, fun i hi => ht.own (h.bk.own i hi) ?_, h.bk.far, h.bk.apart⟩, hp, hok, fun e => ?_, fun i hi x hx e => ?_⟩, ht.mono ?_, ?_⟩
  · rintro g hg (rfl | hx)
    · exact h.bk.far i hi hg
    · exact h.apart i hi g hg hx
  · rcases hn with e' | e'
    · exact h.ne (e' ▸ e)
    · have := e' b e; have := hlow b (.inl (.inl rfl)); omega
  · rcases hn with e' | e'
    · exact h.apart i hi x hx (e' ▸ e)
    · have := e' x e; have := hlow x (.inl (.inr ⟨i, hi, hx⟩)); omega
  · rintro x (rfl | hx)
    · exact .inl (.inl rfl)
    · exact .inr hx
  · rintro x (hx | hx)
    · exact .inl (.inl hx)
    · rcases hn with e' | e'
      · exact .inl (.inr (e' ▸ hx))
      · exact .inr (e' x hx)
end Go.Proofs.Ytdlbiobjnohfbaa
