/- An evaluator of Go code whose memory has names of its own: the keys of a map that is nil, sorted, as one step. -/
import Derived.Test.YtfakfnekcgkelaaEwM9
namespace Go.Proofs.Ytfakfnekcgkelaa
open Go.RowKit
set_option linter.unusedVariables false
set_option linter.unusedSimpArgs false

def SortedNilAt (P : Program) (f g : FuncId) : Prop := ∀ (w : World) (Bm : Nat) (t : TypeId), w.heap[Bm]? = some (.cells #[.map none] t (0, 0)) →
  Calls P f #[.func (.func g) #[] #[.pointer (some ⟨Bm, 0, none⟩)]] w fun e w' => e = .returned (.slice none 0 0) ∧ Below w.heap.size w w'
def isNil0 : Value → Bool
  | .slice none 0 0 => true
  | _ => false
theorem isNil0_eq {v : Value} (h : isNil0 v = true) : v = .slice none 0 0 := by
  unfold isNil0 at h
  split at h
  · rfl
  · cases h
def isNilL : Option (List (Value × AH)) → Bool
  | some l => l.all fun p => isNil0 p.1 && p.2.wrt.isEmpty
  | none => false
theorem sortedNil_eval {P : Program} (hm : P.follows .mixedOrders = true) (hn : NameOK P) {orc : OrcL} (hx : OrcLOK P (fun s => s = fun _ => Value.bool false) orc) {f g : FuncId} {fuel n : Nat}
    (h0 : ∀ t, isNilL ((lCall P orc fuel n f #[.func (.func g) #[] #[.pointer (some ⟨0, 0, none⟩)]]).run (itH0 t)) = true) : SortedNilAt P f g := by
  intro w Bm t hb
  have he := h0 t
  have hrow : ∀ N ρ, ρ.φ 0 = Bm → VR N ρ (.map none) (.map none) → Holds N ρ 0 w (.row [.map none] t 0 false) := fun N ρ e hv => ⟨#[.map none], (0, 0), by rw [e]; exact hb, fun r hr => by simpa using hv r hr, by simp, by simp, by simp⟩
  unfold isNilL at he
  split at he
  case h_2 => cases he
  case h_1 l1 hl =>
    refine (lCall_sound hm hn hx fuel n f _ #[.func (.func g) #[] #[.pointer (some ⟨Bm, 0, none⟩)]] (fun k => k < 1) ⟨fun _ => Bm, fun _ => 0, fun _ => .bool false⟩ rfl (fun r hr2 => ?_) _ l1 hl (fun _ => True) w (fun _ _ => ⟨fun _ _ => trivial, fun _ _ => trivial⟩) (fun k hk => ?_) (fun p _ k hs hk => by
      have h1 := hs.1
      have h2 : (itH0 t).next = 1 := rfl
      have h3 : k < 1 := hk
      omega) ⟨fun a b _ _ ha hb _ => ?_, fun k o _ ho => ?_, fun k _ hk => ?_, fun _ => rfl, fun g h => by cases h⟩).mono ?_
    · simp [ren, renA, hr2.φ 0 (show (0 : Nat) < 1 by decide)]
    · rw [itH0_get]; rw [if_neg (by have : 1 ≤ k := hk; omega)]
    · rw [itH0_get] at ha hb; split at ha <;> split at hb <;> simp_all
    · rw [itH0_get] at ho; split at ho
      · rename_i h; subst h; injection ho with ho; subst ho; exact hrow _ _ rfl (VR.shut rfl)
      · cases ho
    · rw [itH0_get] at hk; split at hk
      · omega
      · cases hk
    · rintro e w' ⟨p, hp, ρ', v', rfl, hs, hrr, hvv⟩
      have hwp := List.all_eq_true.1 he p hp
      rw [Bool.and_eq_true] at hwp
      have hwr : p.2.wrt = [] := by simpa using hwp.2
      have hv := isNil0_eq hwp.1
      refine ⟨?_, hs.os, hs.tape, hs.output, hs.size, fun k hk => hs.frame k hk (fun q _ hq1 hsome hor => ?_)⟩
      · have := hvv.eq; rw [hv] at this; rw [← this]; simp [ren]
      · rcases hor with h2 | h2
        · rw [hwr] at h2; cases h2
        · have h3 : (itH0 t).base = 1 := rfl
          have h4 : (itH0 t).next = 1 := rfl
          omega
def sortArg : List Value → Option (FuncId × Nat)
  | [.func (.func g) ⟨[]⟩ ⟨[.pointer (some ⟨bx, 0, none⟩)]⟩] => some (g, bx)
  | _ => none
theorem sortArg_spec {l : List Value} {g : FuncId} {bx : Nat} (h : sortArg l = some (g, bx)) : l = [.func (.func g) #[] #[.pointer (some ⟨bx, 0, none⟩)]] := by
  unfold sortArg at h
  split at h
  · injection h with h; injection h with h5 h6
    subst h5; subst h6; rfl
  · cases h
def aSortedNil (its : List FuncId) (args : Array Value) : AM Value :=
  match sortArg args.toList with
  | some (g, bx) => (match hasN its g with
    | true => (AM.look bx).bind fun
      | .row l _ p mk => (match l, p, mk with
        | [.map none], 0, false => .pure (.slice none 0 0)
        | _, _, _ => .fail)
      | _ => .fail
    | false => .fail)
  | none => .fail
theorem aSortedNil_sound {P : Program} {f : FuncId} {its : List FuncId} (hap : ∀ g ∈ its, SortedNilAt P f g) : FunOK P f (aSortedNil its) := by
  intro args args' N ρ hl h v h' he D w hcov hwf hN hr
  unfold aSortedNil at he
  split at he
  case h_2 => cases he
  case h_1 g bx hs =>
    have ha := sortArg_spec hs
    split at he
    case h_2 => cases he
    case h_1 hg =>
      have hg := hasN_mem hg
      have ha' : args' = #[.func (.func g) #[] #[.pointer (some ⟨ρ.φ bx, 0, none⟩)]] := by
        apply Array.ext'
        rw [← hl.eq, ha]
        simp [ren, renA]
      subst ha'
      obtain ⟨ob, h1, e1, e2⟩ := AM.bind_some he
      have m2 := AM.mono _ _ _ _ e2
      have c1 : Cov D h1 := hcov.of m2
      obtain ⟨g1, rfl⟩ := AM.look_some e1
      have hls := look_step (n := bx) hr
      rw [Grow.eq_self] at hls
      cases ob with
      | map => cases e2
      | iter => cases e2
      | row l t p mk =>
        dsimp only at e2
        split at e2
        case h_2 => cases e2
        case h_1 =>
          obtain ⟨c, fr, b1, b2, b3, b4, b5⟩ := hr.holds bx _ c1.look g1
          simp at b3 b5
          subst b3
          have hc : c = #[.map none] := by
            apply Array.ext'
            have := b2.eq
            rw [List.take_of_length_le (by simp [b5])] at this
            rw [← this]; simp [ren]
          subst hc
          obtain ⟨e3, e4⟩ := AM.pure_some e2
          subst e3; subst e4
          refine (hap g hg w (ρ.φ bx) t b1).mono ?_
          rintro e w' ⟨rfl, hb⟩
          have hG : Grow N h.next h.next = N := Grow.eq_self _ _
          refine ⟨ρ, _, rfl, ⟨Agree.refl _ _, fun n hn => absurd hn.1 (by have h5 : n < h.next := hn.2; omega), hb.os, hb.tape, hb.output, hb.size, fun k hk _ => hb.block k hk⟩, ?_, VR.shut rfl⟩
          show Rel D (Grow N h.next h.next) ρ _ w'
          rw [hG]
          exact ⟨hls.2.inj, fun n o hD ho => (hls.2.holds n o hD ho).mono (Agree.refl _ _) (fun _ h => h) (hls.2.known n hD (by rw [ho]; rfl)) (hb.block _ (hls.2.holds n o hD ho).lt), hls.2.known, hls.2.sym, hls.2.glob⟩
theorem FunOKL.or {P : Program} {f : FuncId} {a b : Array Value → LM Value} (ha : FunOKL P f a) (hb : FunOKL P f b) : FunOKL P f (fun args => (a args).or (b args)) := by
  intro args args' N ρ hl h l he D w hcov hwf hN hr
  unfold LM.or at he
  dsimp only at he
  split at he
  · rename_i l' hl'; injection he with he; subst he
    exact ha args args' N ρ hl h _ hl' D w hcov hwf hN hr
  · exact hb args args' N ρ hl h l he D w hcov hwf hN hr
end Go.Proofs.Ytfakfnekcgkelaa
