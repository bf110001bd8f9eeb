/- An evaluator of Go code whose memory has names of its own (14b): a part of a slice with three indexes; clear of a slice. -/
import Derived.Test.YtljhlnpbomehkaaEwN
namespace Go.Proofs.Ytljhlnpbomehkaa
set_option linter.unusedVariables false
set_option linter.unusedSimpArgs false

def aSlice3 (P : Program) (t : TypeId) (x : Value) (lo : Option Value) (hi mx : Value) : AM Value :=
  match P.underlying t, x, optNat lo, natOf hi, natOf mx with
  | some (.slice e), .slice (some ⟨b, off, none⟩) len cap, some lo, some h, some m => (match P.info? e with
    | some i =>
      let l := lo.getD 0
      if l ≤ h ∧ h ≤ m ∧ m < capTop then
        (if cap < capTop then (if m ≤ cap then .pure (.slice (some (if m = l then ⟨b, off, none⟩ else (⟨b, off, none⟩ : Addr).add (l * i.size))) (h - l) (m - l)) else .fail)
        else (AM.look b).bind fun
          | .row cs _ op _ => if op = i.size ∧ 0 < i.size ∧ (cap - capTop + m) * i.size ≤ cs.length then
              .pure (.slice (some (if m = l then ⟨b, off, none⟩ else (⟨b, off, none⟩ : Addr).add (l * i.size))) (h - l) (m - l)) else .fail
          | _ => .fail)
      else .fail
    | none => .fail)
  | _, _, _, _, _ => .fail
theorem sliceBounds3_run {P : Program} {ρ : Ren} {lo : Option Value} {hi mx : Value} {ln : Option Nat} {h m len cap : Nat} (h1 : optNat lo = some ln) (h2 : natOf hi = some h) (h3 : natOf mx = some m) (hl : ln.getD 0 ≤ h) (hh : h ≤ m) (hm : m ≤ cap) (w : World) :
    (Instr.sliceBounds true len cap (lo.map (ren ρ)) (some (ren ρ hi)) (some (ren ρ mx))).run P w = .ok (ln.getD 0, h, m) w := by
  have q1 : (lo = none ∧ ln = none) ∨ ∃ v n, lo = some v ∧ ln = some n ∧ natOf v = some n := by
    cases lo with
    | none => simp [optNat] at h1; exact .inl ⟨rfl, h1.symm⟩
    | some v =>
      cases hn' : natOf v with
      | none => simp [optNat, hn'] at h1
      | some n => simp [optNat, hn'] at h1; exact .inr ⟨v, n, rfl, h1.symm, hn'⟩
  have a1 := sliceBound_run (P := P) (ρ := ρ) (code := .slice3Acap) h3 hm w
  have a2 := sliceBound_run (P := P) (ρ := ρ) (code := .slice3B) h2 hh w
  rcases q1 with ⟨rfl, rfl⟩ | ⟨v1, n1, rfl, rfl, k1⟩
  · simp [Instr.sliceBounds, a1, a2]
  · have a3 := sliceBound_run (P := P) (ρ := ρ) (code := .slice3C) k1 (show n1 ≤ h from hl) w
    simp [Instr.sliceBounds, a1, a2, a3]
theorem aSlice3_sound {P : Program} {N : Nat → Prop} {ρ : Ren} {t : TypeId} {x x' : Value} {lo lo' hi' mx' : Option Value} {hi mx : Value} (hx : VR N ρ x x') (hlo : lo' = lo.map (ren ρ)) (hhi : hi' = some (ren ρ hi)) (hmx : mx' = some (ren ρ mx)) :
    Sim P N ρ (aSlice3 P t x lo hi mx) (Instr.sliceAt t x' lo' hi' mx') VRel := by
  intro h v h' he D w hcov hwf hN hr
  have hrc : ∀ (r : Ren) (b c : Nat), renCap r b c = if capTop ≤ c then r.κ b - (c - capTop) else c := fun _ _ _ => rfl
  unfold aSlice3 at he
  generalize capTop = T at he hrc
  split at he
  case h_2 => cases he
  case h_1 e b off len cap ln hn m ht h1 h2 h3 =>
    split at he
    case h_2 => cases he
    case h_1 i hinf =>
      dsimp only at he
      split at he
      case isFalse => cases he
      case isTrue hlh =>
        have hx' : x' = .slice (some ⟨ρ.φ b, off, none⟩) len (renCap ρ b cap) := by rw [← hx.eq]; simp [ren, renB, renA]
        have hxr : ∀ r, Agree N ρ r → r.φ b = ρ.φ b := fun r hr2 => by
          have := hx r hr2
          rw [hx'] at this
          simp only [ren, renB, renA, Value.slice.injEq, Option.some.injEq, Addr.mk.injEq] at this
          exact this.1.1
        have hadd : ∀ n : Nat, ((⟨b, off, none⟩ : Addr).add n) = ⟨b, off + n, none⟩ := fun n => Addr.add_mid b off n
        have hadd' : ∀ n : Nat, ((⟨ρ.φ b, off, none⟩ : Addr).add n) = ⟨ρ.φ b, off + n, none⟩ := fun n => Addr.add_mid _ off n
        have hrun : m ≤ renCap ρ b cap → (Instr.sliceAt t x' lo' hi' mx').run P w =
            .ok (.slice (some (if m = ln.getD 0 then ⟨ρ.φ b, off, none⟩ else (⟨ρ.φ b, off, none⟩ : Addr).add (ln.getD 0 * i.size))) (hn - ln.getD 0) (m - ln.getD 0)) w := fun hle => by
          have hb := sliceBounds3_run (P := P) (ρ := ρ) (len := len) h1 h2 h3 hlh.1 hlh.2.1 hle w
          subst hlo; subst hhi; subst hmx; subst hx'
          unfold Instr.sliceAt
          simp only [Sem.run_bind, run_underlying ht w, Result.andThen_ok]
          unfold Instr.slice
          simp only [Sem.run_bind, run_underlying ht w, Result.andThen_ok, hb, sizeOf, typeInfo, run_program, hinf, Sem.run_pure]
          split <;> simp
        have hvr : VRel N ρ (.slice (some (if m = ln.getD 0 then ⟨b, off, none⟩ else (⟨b, off, none⟩ : Addr).add (ln.getD 0 * i.size))) (hn - ln.getD 0) (m - ln.getD 0))
            (.slice (some (if m = ln.getD 0 then ⟨ρ.φ b, off, none⟩ else (⟨ρ.φ b, off, none⟩ : Addr).add (ln.getD 0 * i.size))) (hn - ln.getD 0) (m - ln.getD 0)) := by
          intro r hr2
          have h5 : renCap r b (m - ln.getD 0) = m - ln.getD 0 := by rw [hrc]; rw [if_neg (by omega)]
          rw [hadd, hadd']
          split <;> simp only [ren, renB, renA, hxr r hr2, h5]
        split at he
        case isTrue hct =>
          split at he
          case isFalse => cases he
          case isTrue hhc =>
            obtain ⟨rfl, rfl⟩ := AM.pure_some he
            have hcc : cap = renCap ρ b cap := by rw [hrc]; rw [if_neg (by omega)]
            refine ⟨ρ, _, w, hrun (by omega), Step.refl _ _ _ _, by rw [Grow.eq_self]; exact hr, ?_⟩
            rw [Grow.eq_self]
            exact hvr
        case isFalse hct =>
          obtain ⟨ob, h1', e1, e2⟩ := AM.bind_some he
          obtain ⟨g1, rfl⟩ := AM.look_some e1
          cases ob with
          | map es cl => cases e2
          | iter m s e t => cases e2
          | row cs el op mk =>
            dsimp only at e2
            split at e2
            case isFalse => cases e2
            case isTrue hb =>
              obtain ⟨hb1, hb2, hb3⟩ := hb
              obtain ⟨rfl, rfl⟩ := AM.pure_some e2
              obtain ⟨ca, fr, q1, q2, q4, q5, q6⟩ := hr.holds b _ hcov.look g1
              rw [if_neg (by omega)] at q6
              have hcc : ρ.κ b - (cap - T) = renCap ρ b cap := by rw [hrc]; rw [if_pos (by omega)]
              have hk : (cap - T + m) ≤ ρ.κ b := by
                have h3 : (cap - T + m) * op ≤ ρ.κ b * op := by rw [← q6.1, hb1]; omega
                exact Nat.le_of_mul_le_mul_right h3 (by omega)
              have hls := look_step (n := b) hr
              rw [Grow.eq_self] at hls
              have hG : Grow N h.next h.next = N := Grow.eq_self _ _
              refine ⟨ρ, _, w, hrun (by omega), hls.1, ?_, ?_⟩
              · rw [show ({ h with tch := note h.base b h.tch } : AH).next = h.next from rfl, hG]; exact hls.2
              · rw [show ({ h with tch := note h.base b h.tch } : AH).next = h.next from rfl, hG]; exact hvr

/-- clear of a slice -/
def aClear (P : Program) (t : TypeId) (x : Value) : AM Value :=
  match P.underlying t, x with
  | some (.slice e), .slice none _ _ => .pure (.tuple #[])
  | some (.slice e), .slice (some ⟨b, off, sp⟩) n _ => if n = 0 then .pure (.tuple #[]) else (match sp, zeroOf P e with
    | none, some zs => (aWrite b off (Builtin.zeroCells zs.toArray n).toList).bind fun _ => .pure (.tuple #[])
    | _, _ => .fail)
  | _, _ => .fail
theorem zeroCells_shut {zs : List Value} (h : zs.all shut = true) (n : Nat) : (Builtin.zeroCells zs.toArray n).toList.all shut = true := by
  rw [List.all_eq_true]
  intro v hv
  unfold Builtin.zeroCells at hv
  simp only [Array.toList_map, List.mem_map, Array.toList_range, List.mem_range, List.size_toArray] at hv
  obtain ⟨i, hi, rfl⟩ := hv
  have h0 : 0 < zs.length := by
    rcases Nat.eq_zero_or_pos zs.length with h | h
    · rw [h] at hi; omega
    · exact h
  have hm : i % zs.length < zs.length := Nat.mod_lt _ h0
  rw [getElem!_pos zs.toArray (i % zs.length) (by simpa using hm)]
  simp only [List.getElem_toArray]
  exact (List.all_eq_true.1 h) _ (List.getElem_mem _)
theorem Sim.congr' {P : Program} {α β : Type} {N : Nat → Prop} {ρ : Ren} {m : AM α} {s s' : Sem β} {R : (Nat → Prop) → Ren → α → β → Prop} (hs : Sim P N ρ m s R) (h : ∀ w, s'.run P w = s.run P w) : Sim P N ρ m s' R := by
  intro a x h' e D w h1 h2 h3 h4
  obtain ⟨r, y, w', q1, q2⟩ := hs a x h' e D w h1 h2 h3 h4
  exact ⟨r, y, w', by rw [h]; exact q1, q2⟩
theorem aClear_sound {P : Program} {N : Nat → Prop} {ρ : Ren} {t : TypeId} {x x' : Value} {ty : TypeId} (hx : VR N ρ x x') : Sim P N ρ (aClear P t x) (Builtin.clear_ #[t] ty #[x']) VRel := by
  unfold aClear
  split
  case h_1 e n c hu =>
    have hx' : x' = .slice none n c := by rw [← hx.eq]; simp [ren]
    subst hx'
    refine Sim.congr' (s := Sem.pure (.tuple #[])) (Sim.pure (VR.shut rfl)) (fun w => ?_)
    simp [Builtin.clear_, run_underlying hu w]
  case h_2 e b off sp n c hu =>
    have hx' : x' = .slice (some (renB ρ ⟨b, off, sp⟩ c)) n (renCap ρ b c) := by rw [← hx.eq]; simp [ren]
    subst hx'
    split
    case isTrue h0 =>
      subst h0
      refine Sim.congr' (s := Sem.pure (.tuple #[])) (Sim.pure (VR.shut rfl)) (fun w => ?_)
      simp [Builtin.clear_, run_underlying hu w]
    case isFalse h0 =>
      split
      case h_2 => exact Sim.fail
      case h_1 zs hz =>
        have hsh : LR N ρ (Builtin.zeroCells zs.toArray n).toList (Builtin.zeroCells zs.toArray n).toList := LR.shut (zeroCells_shut (by
          obtain ⟨z, _, _, h3⟩ := zeroOf_run hz default
          exact h3) n)
        refine Sim.congr' (s := Sem.bind (storeCells ⟨ρ.φ b, off, none⟩ (Builtin.zeroCells zs.toArray n).toList) fun _ => Sem.pure (.tuple #[])) ((aWrite_sound hsh).bind (fun _ _ _ _ _ _ _ => Sim.pure (VR.shut rfl))) (fun w => ?_)
        obtain ⟨z, z1, z2, z3⟩ := zeroOf_run hz w
        have hz2 : z.cells = zs.toArray := by apply Array.ext'; rw [z2]
        cases n with
        | zero => exact absurd rfl h0
        | succ n => simp [Builtin.clear_, run_underlying hu w, z1, hz2, renB, renA, Sem.run_bind']
  case h_3 => exact Sim.fail
/-- nothing of nothing, where an open row ends -/
def spotted : Value → Bool
  | .slice (some ⟨_, _, some _⟩) _ _ => true
  | _ => false
def aSlice0 (P : Program) (t : TypeId) (x : Value) (lo hi : Option Value) : AM Value :=
  match P.underlying t, x, optNat lo, optNat hi with
  | some (.slice e), .slice (some ⟨b, off, some z⟩) n c, some lo, some hi => (match P.info? e with
    | some _ => if n = 0 ∧ lo.getD 0 = 0 ∧ hi.getD n = 0 then .pure x else .fail
    | none => .fail)
  | _, _, _, _ => .fail
theorem aSlice0_sound {P : Program} {N : Nat → Prop} {ρ : Ren} {t : TypeId} {x x' : Value} {lo lo' hi hi' : Option Value} (hx : VR N ρ x x') (hlo : lo' = lo.map (ren ρ)) (hhi : hi' = hi.map (ren ρ)) :
    Sim P N ρ (aSlice0 P t x lo hi) (Instr.sliceAt t x' lo' hi' none) VRel := by
  intro h v h' he D w hcov hwf hN hr
  unfold aSlice0 at he
  split at he
  case h_2 => cases he
  case h_1 e b off z n c ln hn ht h1 h2 =>
    split at he
    case h_2 => cases he
    case h_1 i hinf =>
      split at he
      case isFalse => cases he
      case isTrue hz =>
        obtain ⟨rfl, hl, hh⟩ := hz
        obtain ⟨rfl, rfl⟩ := AM.pure_some he
        have hx' : x' = .slice (some (renB ρ ⟨b, off, some z⟩ c)) 0 (renCap ρ b c) := by rw [← hx.eq]; simp [ren]
        have hb := sliceBounds_run (P := P) (ρ := ρ) (len := 0) (cap := renCap ρ b c) h1 h2 (by omega) (fun _ => by omega) w
        rw [hl, hh] at hb
        have hrun : (Instr.sliceAt t x' lo' hi' none).run P w = .ok x' w := by
          subst hlo; subst hhi
          rw [hx']
          unfold Instr.sliceAt
          simp only [Sem.run_bind, run_underlying ht w, Result.andThen_ok]
          unfold Instr.slice
          simp only [Sem.run_bind, run_underlying ht w, Result.andThen_ok, hb, sizeOf, typeInfo, run_program, hinf, Sem.run_pure]
          simp [Addr.add]
        refine ⟨ρ, x', w, hrun, Step.refl _ _ _ _, by rw [Grow.eq_self]; exact hr, ?_⟩
        rw [Grow.eq_self]; exact hx
end Go.Proofs.Ytljhlnpbomehkaa
