/- An evaluator of Go code whose memory has names of its own (14): a part of a slice. -/
import Derived.Test.YtljhlnpbomehkaaEwMb
namespace Go.Proofs.Ytljhlnpbomehkaa
set_option linter.unusedVariables false
set_option linter.unusedSimpArgs false

/-- a part of a slice -/
def natOf : Value → Option Nat
  | .int _ n => if 0 ≤ n then some n.toNat else none
  | _ => none
def optNat : Option Value → Option (Option Nat)
  | none => some none
  | some v => (natOf v).map some
def aSliceOp (P : Program) (t : TypeId) (x : Value) (lo hi mx : Option Value) : AM Value :=
  match P.underlying t, x, optNat lo, optNat hi, mx with
  | some (.slice e), .slice (some ⟨b, off, none⟩) len cap, some lo, some hi, none => (match P.info? e with
    | some i =>
      let l := lo.getD 0
      let h := hi.getD len
      if l ≤ h then
        (if cap < capTop then (if h ≤ cap then .pure (.slice (some (if cap = l then ⟨b, off, none⟩ else (⟨b, off, none⟩ : Addr).add (l * i.size))) (h - l) (cap - l)) else .fail)
        else (AM.look b).bind fun
          | .row cs _ op _ => if op = i.size ∧ 0 < i.size ∧ (cap - capTop + h) * i.size ≤ cs.length ∧ (l = 0 ∨ (cap - capTop + l) * i.size < cs.length) then
              .pure (.slice (some ((⟨b, off, none⟩ : Addr).add (l * i.size))) (h - l) (cap + l))
            else if op = i.size ∧ 0 < i.size ∧ (cap - capTop + h) * i.size ≤ cs.length ∧ h = l ∧ 0 < l then .pure (.slice (some ⟨b, off + l * i.size, some off⟩) 0 (cap + l)) else .fail
          | _ => .fail)
      else .fail
    | none => .fail)
  | _, _, _, _, _ => .fail
theorem natOf_run {P : Program} {ρ : Ren} {v : Value} {n : Nat} (h : natOf v = some n) (w : World) : ∃ k, (asIntOf (ren ρ v)).run P w = .ok (k, (n : Int)) w := by
  unfold natOf at h
  split at h
  case h_2 => cases h
  case h_1 k m =>
    split at h
    case isFalse => cases h
    case isTrue hm =>
      injection h with h; subst h
      exact ⟨k, by simp [ren, asIntOf]; omega⟩
theorem sliceBound_run {P : Program} {ρ : Ren} {v : Value} {n y : Nat} {code : BoundsCode} (h : natOf v = some n) (hy : n ≤ y) (w : World) : (Instr.sliceBound (ren ρ v) y code).run P w = .ok n w := by
  obtain ⟨k, hk⟩ := natOf_run (P := P) (ρ := ρ) h w
  unfold Instr.sliceBound
  simp only [Sem.run_bind, hk, Result.andThen_ok]
  rw [if_pos ⟨by omega, by omega⟩]
  simp
theorem sliceBounds_run {P : Program} {ρ : Ren} {lo hi : Option Value} {ln hn : Option Nat} {len cap : Nat} (h1 : optNat lo = some ln) (h2 : optNat hi = some hn) (hl : ln.getD 0 ≤ hn.getD len) (hc : hn.isSome → hn.getD len ≤ cap) (w : World) :
    (Instr.sliceBounds true len cap (lo.map (ren ρ)) (hi.map (ren ρ)) none).run P w = .ok (ln.getD 0, hn.getD len, cap) w := by
  have q1 : (lo = none ∧ ln = none) ∨ ∃ v n, lo = some v ∧ ln = some n ∧ natOf v = some n := by
    cases lo with
    | none => simp [optNat] at h1; exact .inl ⟨rfl, h1.symm⟩
    | some v =>
      cases hn' : natOf v with
      | none => simp [optNat, hn'] at h1
      | some n => simp [optNat, hn'] at h1; exact .inr ⟨v, n, rfl, h1.symm, hn'⟩
  have q2 : (hi = none ∧ hn = none) ∨ ∃ v n, hi = some v ∧ hn = some n ∧ natOf v = some n := by
    cases hi with
    | none => simp [optNat] at h2; exact .inl ⟨rfl, h2.symm⟩
    | some v =>
      cases hn' : natOf v with
      | none => simp [optNat, hn'] at h2
      | some n => simp [optNat, hn'] at h2; exact .inr ⟨v, n, rfl, h2.symm, hn'⟩
  rcases q2 with ⟨rfl, rfl⟩ | ⟨v2, n2, rfl, rfl, k2⟩
  · rcases q1 with ⟨rfl, rfl⟩ | ⟨v1, n1, rfl, rfl, k1⟩
    · simp [Instr.sliceBounds]
    · have := sliceBound_run (P := P) (ρ := ρ) (code := .sliceB) k1 (show n1 ≤ len from hl) w
      simp [Instr.sliceBounds, this]
  · have h3 := sliceBound_run (P := P) (ρ := ρ) (code := .sliceAcap) k2 (show n2 ≤ cap from hc rfl) w
    rcases q1 with ⟨rfl, rfl⟩ | ⟨v1, n1, rfl, rfl, k1⟩
    · simp [Instr.sliceBounds, h3]
    · have := sliceBound_run (P := P) (ρ := ρ) (code := .sliceB) k1 (show n1 ≤ n2 from hl) w
      simp [Instr.sliceBounds, this, h3]
theorem aSliceOp_sound {P : Program} {N : Nat → Prop} {ρ : Ren} {t : TypeId} {x x' : Value} {lo hi mx lo' hi' mx' : Option Value} (hx : VR N ρ x x') (hlo : lo' = lo.map (ren ρ)) (hhi : hi' = hi.map (ren ρ)) (hmx : mx = none → mx' = none) :
    Sim P N ρ (aSliceOp P t x lo hi mx) (Instr.sliceAt t x' lo' hi' mx') VRel := by
  intro h v h' he D w hcov hwf hN hr
  have hrc : ∀ (r : Ren) (b c : Nat), renCap r b c = if capTop ≤ c then r.κ b - (c - capTop) else c := fun _ _ _ => rfl
  have hrb : ∀ (r : Ren) (b o z c : Nat), renB r ⟨b, o, some z⟩ c = if capTop ≤ c ∧ r.κ b ≤ c - capTop then ⟨r.φ b, z, none⟩ else ⟨r.φ b, o, none⟩ := fun _ _ _ _ _ => rfl
  unfold aSliceOp at he
  generalize capTop = T at he hrc hrb
  split at he
  case h_2 => cases he
  case h_1 e b off len cap ln hn ht h1 h2 =>
    split at he
    case h_2 => cases he
    case h_1 i hinf =>
      dsimp only at he
      split at he
      case isFalse => cases he
      case isTrue hlh =>
        have hmx' := hmx rfl
        have hx' : x' = .slice (some ⟨ρ.φ b, off, none⟩) len (renCap ρ b cap) := by rw [← hx.eq]; simp [ren, renB, renA]
        have hxr : ∀ r, Agree N ρ r → r.φ b = ρ.φ b ∧ renCap r b cap = renCap ρ b cap := fun r hr2 => by
          have := hx r hr2
          rw [hx'] at this
          simp only [ren, renB, renA, Value.slice.injEq, Option.some.injEq, Addr.mk.injEq] at this
          exact ⟨this.1.1, this.2.2⟩
        have hrun : ∀ cc : Nat, cc = renCap ρ b cap → (hn.isSome → hn.getD len ≤ cc) → (Instr.sliceAt t x' lo' hi' mx').run P w =
            .ok (.slice (some (if cc = ln.getD 0 then ⟨ρ.φ b, off, none⟩ else (⟨ρ.φ b, off, none⟩ : Addr).add (ln.getD 0 * i.size))) (hn.getD len - ln.getD 0) (cc - ln.getD 0)) w := fun cc hcc hle => by
          have hb := sliceBounds_run (P := P) (ρ := ρ) (lo := lo) (hi := hi) (cap := cc) h1 h2 hlh hle w
          subst hlo; subst hhi; subst hmx'; subst hx'
          unfold Instr.sliceAt
          simp only [Sem.run_bind, run_underlying ht w, Result.andThen_ok]
          unfold Instr.slice
          simp only [Sem.run_bind, run_underlying ht w, Result.andThen_ok, ← hcc, hb, sizeOf, typeInfo, run_program, hinf, Sem.run_pure]
          split <;> simp
        split at he
        case isTrue hct =>
          split at he
          case isFalse => cases he
          case isTrue hhc =>
            obtain ⟨rfl, rfl⟩ := AM.pure_some he
            have hcc : cap = renCap ρ b cap := by rw [hrc]; rw [if_neg (by omega)]
            refine ⟨ρ, _, w, hrun cap hcc (fun _ => hhc), Step.refl _ _ _ _, by rw [Grow.eq_self]; exact hr, ?_⟩
            rw [Grow.eq_self]
            intro r hr2
            have := hxr r hr2
            have h3 : renCap r b (cap - ln.getD 0) = cap - ln.getD 0 := by rw [hrc]; rw [if_neg (by omega)]
            have hadd : ∀ n : Nat, ((⟨b, off, none⟩ : Addr).add n) = ⟨b, off + n, none⟩ := fun n => Addr.add_mid b off n
            have hadd' : ∀ n : Nat, ((⟨ρ.φ b, off, none⟩ : Addr).add n) = ⟨ρ.φ b, off + n, none⟩ := fun n => Addr.add_mid _ off n
            rw [hadd, hadd']
            split <;> simp [ren, renB, renA, this.1, h3]
        case isFalse hct =>
          obtain ⟨ob, h1', e1, e2⟩ := AM.bind_some he
          obtain ⟨g1, rfl⟩ := AM.look_some e1
          cases ob with
          | map es cl => cases e2
          | iter m s e t => cases e2
          | row cs el op mk =>
            dsimp only at e2
            split at e2
            case isFalse =>
             split at e2
             case isFalse => cases e2
             case isTrue hb =>
              obtain ⟨hb1, hb2, hb3, hb4, hb5⟩ := hb
              obtain ⟨rfl, rfl⟩ := AM.pure_some e2
              obtain ⟨ca, fr, q1, q2, q4, q5, q6⟩ := hr.holds b _ hcov.look g1
              rw [if_neg (by omega)] at q6
              have hcc : ρ.κ b - (cap - T) = renCap ρ b cap := by rw [hrc]; rw [if_pos (by omega)]
              have hk : (cap - T + hn.getD len) ≤ ρ.κ b := by
                have h3 : (cap - T + hn.getD len) * op ≤ ρ.κ b * op := by rw [← q6.1, hb1]; omega
                exact Nat.le_of_mul_le_mul_right h3 (by omega)
              have hls := look_step (n := b) hr
              rw [Grow.eq_self] at hls
              have hadd' : ∀ n : Nat, ((⟨ρ.φ b, off, none⟩ : Addr).add n) = ⟨ρ.φ b, off + n, none⟩ := fun n => Addr.add_mid _ off n
              have hres := hrun _ hcc (fun _ => by omega)
              rw [hadd'] at hres
              have hvr : VRel N ρ (.slice (some ⟨b, off + ln.getD 0 * i.size, some off⟩) 0 (cap + ln.getD 0)) (.slice (some (if ρ.κ b - (cap - T) = ln.getD 0 then (⟨ρ.φ b, off, none⟩ : Addr) else ⟨ρ.φ b, off + ln.getD 0 * i.size, none⟩)) (hn.getD len - ln.getD 0) (ρ.κ b - (cap - T) - ln.getD 0)) := by
                intro r hr2
                have h0 := hxr r hr2
                have h5 := h0.2
                rw [← hcc, hrc, if_pos (by omega)] at h5
                have hcap : renCap r b (cap + ln.getD 0) = ρ.κ b - (cap - T) - ln.getD 0 := by
                  rw [hrc, if_pos (by omega)]
                  omega
                simp only [ren, hrb, h0.1, hcap, hb4, Nat.sub_self]
                by_cases hq : ρ.κ b - (cap - T) = ln.getD 0
                · rw [if_pos hq, if_pos ⟨by omega, by omega⟩]
                · rw [if_neg hq, if_neg (fun hh => hq (by omega))]
              have hG : Grow N h.next h.next = N := Grow.eq_self _ _
              refine ⟨ρ, _, w, hres, hls.1, ?_, ?_⟩
              · rw [show ({ h with tch := note h.base b h.tch } : AH).next = h.next from rfl, hG]; exact hls.2
              · rw [show ({ h with tch := note h.base b h.tch } : AH).next = h.next from rfl, hG]; exact hvr
            case isTrue hb =>
              obtain ⟨hb1, hb2, hb3, hb4⟩ := hb
              obtain ⟨rfl, rfl⟩ := AM.pure_some e2
              obtain ⟨ca, fr, q1, q2, q4, q5, q6⟩ := hr.holds b _ hcov.look g1
              rw [if_neg (by omega)] at q6
              have hcc : ρ.κ b - (cap - T) = renCap ρ b cap := by rw [hrc]; rw [if_pos (by omega)]
              have hk : (cap - T + hn.getD len) ≤ ρ.κ b := by
                have h3 : (cap - T + hn.getD len) * op ≤ ρ.κ b * op := by rw [← q6.1, hb1]; omega
                exact Nat.le_of_mul_le_mul_right h3 (by omega)
              have hls := look_step (n := b) hr
              rw [Grow.eq_self] at hls
              have hadd : ∀ n : Nat, ((⟨b, off, none⟩ : Addr).add n) = ⟨b, off + n, none⟩ := fun n => Addr.add_mid b off n
              have hadd' : ∀ n : Nat, ((⟨ρ.φ b, off, none⟩ : Addr).add n) = ⟨ρ.φ b, off + n, none⟩ := fun n => Addr.add_mid _ off n
              have hif : (if ρ.κ b - (cap - T) = ln.getD 0 then (⟨ρ.φ b, off, none⟩ : Addr) else (⟨ρ.φ b, off, none⟩ : Addr).add (ln.getD 0 * i.size)) = ⟨ρ.φ b, off + ln.getD 0 * i.size, none⟩ := by
                rcases hb4 with h4 | h4
                · rw [h4, Nat.zero_mul, Nat.add_zero]
                  split
                  · rfl
                  · rw [hadd']; rfl
                · have hlt : (cap - T + ln.getD 0) < ρ.κ b := by
                    have h3 : (cap - T + ln.getD 0) * op < ρ.κ b * op := by rw [← q6.1, hb1]; omega
                    exact Nat.lt_of_mul_lt_mul_right h3
                  rw [if_neg (by omega), hadd']
              have hres := hrun _ hcc (fun _ => by omega)
              rw [hif] at hres
              have hvr : VRel N ρ (.slice (some ((⟨b, off, none⟩ : Addr).add (ln.getD 0 * i.size))) (hn.getD len - ln.getD 0) (cap + ln.getD 0)) (.slice (some ⟨ρ.φ b, off + ln.getD 0 * i.size, none⟩) (hn.getD len - ln.getD 0) (ρ.κ b - (cap - T) - ln.getD 0)) := by
                intro r hr2
                have h0 := hxr r hr2
                have hcap : renCap r b (cap + ln.getD 0) = ρ.κ b - (cap - T) - ln.getD 0 := by
                  have h5 := h0.2
                  rw [← hcc, hrc, if_pos (by omega)] at h5
                  rw [hrc, if_pos (by omega)]
                  omega
                rw [hadd]
                simp only [ren, renB, renA, h0.1, hcap]
              have hG : Grow N h.next h.next = N := Grow.eq_self _ _
              refine ⟨ρ, _, w, hres, hls.1, ?_, ?_⟩
              · rw [show ({ h with tch := note h.base b h.tch } : AH).next = h.next from rfl, hG]; exact hls.2
              · rw [show ({ h with tch := note h.base b h.tch } : AH).next = h.next from rfl, hG]; exact hvr
end Go.Proofs.Ytljhlnpbomehkaa
