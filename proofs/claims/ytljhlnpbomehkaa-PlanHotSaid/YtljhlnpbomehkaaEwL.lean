/- An evaluator of Go code whose memory has names of its own (12): copies, new slices, literals, parts of slices, texts and bytes. -/
import Derived.Test.YtljhlnpbomehkaaEwK
import Derived.Lib.ConvBytes
import Derived.Laws.BytesString
namespace Go.Proofs.Ytljhlnpbomehkaa
set_option linter.unusedVariables false
set_option linter.unusedSimpArgs false

def aCopy (P : Program) (t : TypeId) (d x : Value) : AM Value :=
  match P.underlying t with
  | some (.slice e) => (match P.info? e with
    | some i => (aSrc i.size x).bind fun p => match d with
      | .slice none n _ => if n = 0 then .pure (.int .i64 0) else .fail
      | .slice (some ⟨b, off, none⟩) n _ => (aWrite b off (p.2.take (Nat.min p.1 n * i.size))).bind fun _ => .pure (.int .i64 (Nat.min p.1 n : Nat))
      | _ => .fail
    | none => .fail)
  | _ => .fail
theorem LR.take {N : Nat → Prop} {ρ : Ren} {l l' : List Value} (h : LR N ρ l l') (k : Nat) : LR N ρ (l.take k) (l'.take k) := fun r hr => by rw [List.map_take, h r hr]
theorem aCopy_sound {P : Program} {N : Nat → Prop} {ρ : Ren} {t t2 ty : TypeId} {d d' x x' : Value} (hd : VR N ρ d d') (hx : VR N ρ x x') : Sim P N ρ (aCopy P t d x) (Builtin.copy_ #[t, t2] ty #[d', x']) VRel := by
  intro h v h' he D w hcov hwf hN hr
  unfold aCopy at he
  split at he
  case h_2 => cases he
  case h_1 e ht =>
    split at he
    case h_2 => cases he
    case h_1 i hi =>
      obtain ⟨p, h1, e1, e2⟩ := AM.bind_some he
      obtain ⟨m, cs⟩ := p
      have mono1 := (aSrc i.size x).mono _ _ _ e1
      have cov1 : Cov D h1 := hcov.of (AM.mono _ _ _ _ e2)
      obtain ⟨cs', c1, c2, c3, c4, c5, c6, c7, c8, c9⟩ := aSrc_sound (P := P) e1 cov1 hr hx
      have hG : Grow N h.next h1.next = N := by rw [c4]; exact Grow.eq_self _ _
      dsimp only at e2
      split at e2
      case h_3 => cases e2
      case h_1 n c =>
        split at e2
        case isFalse => cases e2
        case isTrue hn =>
          subst hn
          obtain ⟨rfl, rfl⟩ := AM.pure_some e2
          have hd' : d' = .slice none 0 c := by rw [← hd.eq]; simp [ren]
          subst hd'
          refine ⟨ρ, .int .i64 0, w, ?_, c5, by rw [hG]; exact c6, VR.shut rfl⟩
          have h0 := c9 0 (Nat.zero_le _)
          simp [Builtin.copy_, run_underlying ht, c7, sizeOf, typeInfo, hi, h0, goInt]
      case h_2 b off n c =>
        obtain ⟨u, h2, e3, e4⟩ := AM.bind_some e2
        obtain ⟨rfl, rfl⟩ := AM.pure_some e4
        have hd' : d' = .slice (some ⟨ρ.φ b, off, none⟩) n (renCap ρ b c) := by rw [← hd.eq]; simp [ren, renB, renA]
        obtain ⟨ρ', y, w', r1, r2, r3, _⟩ := aWrite_sound (P := P) (b := b) (off := off) (c1.take (Nat.min m n * i.size)) h1 u h' e3 D w hcov (mono1.wf hwf) (by rw [c4]; exact hN) c6
        refine ⟨ρ', .int .i64 (Nat.min m n : Nat), w', ?_, c5.trans r2 mono1 (AM.mono _ _ _ _ e3), by rw [← c4]; exact r3, VR.shut rfl⟩
        subst hd'
        have h0 := c9 (Nat.min m n) (Nat.min_le_left _ _)
        simp [Builtin.copy_, run_underlying ht, c7, sizeOf, typeInfo, hi, h0, goInt, r1]

def aMakeSlice (P : Program) (t : TypeId) (vl vc : Value) : AM Value :=
  match P.underlying t, vl, vc with
  | some (.slice e), .int _ ln, .int _ cn => (match P.info? e, zeroOf P e with
    | some i, some zs =>
      let l := IntKind.i64.wrap ln
      let c := IntKind.i64.wrap cn
      if 0 ≤ l ∧ l ≤ c ∧ (i.bytes : Int) * c ≤ 1099511627776 ∧ c < 1099511627776 then
        (let row := ((Array.range (c.toNat * i.size)).map (zs.toArray[· % zs.toArray.size]!)).toList
        if row.all shut then (aNewRow e row).bind fun n => .pure (.slice (some ⟨n, 0, none⟩) l.toNat c.toNat) else .fail)
      else .fail
    | _, _ => .fail)
  | _, _, _ => .fail
theorem aMakeSlice_sound {P : Program} {N : Nat → Prop} {ρ : Ren} {t : TypeId} {vl vl' vc vc' : Value} (hl : VR N ρ vl vl') (hc : VR N ρ vc vc') : Sim P N ρ (aMakeSlice P t vl vc) (Instr.makeSlice t vl' vc') VRel := by
  unfold aMakeSlice
  split
  case h_2 => exact Sim.fail
  case h_1 e k1 ln k2 cn ht =>
    split
    case h_2 => exact Sim.fail
    case h_1 i zs hi hzs =>
      dsimp only
      split
      case isFalse => exact Sim.fail
      case isTrue hb =>
        split
        case isFalse => exact Sim.fail
        case isTrue hsh =>
          intro h v h' he D w hcov hwf hN hr
          have hl' : vl' = .int k1 ln := by rw [← hl.eq]; simp [ren]
          have hc' : vc' = .int k2 cn := by rw [← hc.eq]; simp [ren]
          subst hl'; subst hc'
          obtain ⟨z, z1, z2, z3⟩ := zeroOf_run hzs w
          have hrow := (aNewRow_sound (P := P) (N := N) (ρ := ρ) (e := e) (c := (Array.range ((IntKind.i64.wrap cn).toNat * i.size)).map (zs.toArray[· % zs.toArray.size]!)) (LR.shut hsh)).bind
            (f := fun n => AM.pure (Value.slice (some ⟨n, 0, none⟩) (IntKind.i64.wrap ln).toNat (IntKind.i64.wrap cn).toNat)) (g := fun a => Sem.pure (Value.slice (some a) (IntKind.i64.wrap ln).toNat (IntKind.i64.wrap cn).toNat))
            (R2 := VRel) (fun N' ρ' x y _ _ hR => Sim.pure (by rw [hR.1]; exact VR_sl hR.2 (by unfold capTop; omega))) h v h' he D w hcov hwf hN hr
          obtain ⟨ρ', y, w', q1, q2⟩ := hrow
          refine ⟨ρ', y, w', ?_, q2⟩
          have hz0 : z.cells = zs.toArray := by apply Array.ext'; rw [z2]
          have t1 : ¬ ((i.bytes : Int) * IntKind.i64.wrap cn > 2 ^ 48) := by omega
          have t2 : ¬ (IntKind.i64.wrap cn < 0) := by omega
          have t3 : ¬ (IntKind.i64.wrap ln < 0) := by omega
          have t4 : ¬ (IntKind.i64.wrap ln > IntKind.i64.wrap cn) := by omega
          have r0 : ∀ f : Nat → Value, (Array.range 0).map f = #[] := fun f => by simp
          rw [Sem.run_bind'] at q1
          unfold Instr.makeSlice
          simp only [Sem.run_bind, run_underlying ht w, Result.andThen_ok, asInt, asIntOf, Sem.run_pure, typeInfo, run_program, hi]
          rw [if_neg (by simp; omega)]
          simp only [Sem.run_bind, run_askRoom, Result.andThen_ok, sizeOf, typeInfo, run_program, hi, Sem.run_pure]
          by_cases hn : (IntKind.i64.wrap cn).toNat * i.size = 0
          · rw [if_pos hn, hn]
            rw [hn] at q1
            simp only [Sem.run_bind, Sem.run_pure, Result.andThen_ok]
            rw [r0] at q1 ⊢
            exact q1
          · rw [if_neg hn]
            simp only [Sem.run_bind, z1, Sem.run_pure, Result.andThen_ok, hz0]
            exact q1

theorem fold_set_map {g : Value → Value} : ∀ (l : List (Value × Nat)) (cs : Array Value) (off : Nat), (l.map fun p => (g p.1, p.2)).foldl (fun cs (p : Value × Nat) => cs.setIfInBounds (off + p.2) p.1) (cs.map g) = (l.foldl (fun cs (p : Value × Nat) => cs.setIfInBounds (off + p.2) p.1) cs).map g
  | [], cs, off => rfl
  | p :: r, cs, off => by
    simp only [List.map_cons, List.foldl_cons]
    rw [← fold_set_map r]
    congr 1
    apply Array.ext'
    simp
theorem fill_map {place : Nat → Option (Nat × Nat)} {r : Ren} (hr : SymOk r) : ∀ (parts : List (Nat × Value)) (cells : Array Value),
    Instr.fill place (cells.map (ren r)) (parts.map fun p => (p.1, ren r p.2)) = (Instr.fill place cells parts).map fun c => c.map (ren r)
  | [], cells => rfl
  | (i, v) :: rest, cells => by
    simp only [List.map_cons, Instr.fill]
    cases hp : place i with
    | none => rfl
    | some q =>
      obtain ⟨off, size⟩ := q
      dsimp only
      have hsz : (ren r v).cells.size = v.cells.size := by rw [cells_ren hr]; simp
      rw [hsz, Array.size_map]
      split
      · rfl
      · rw [← fill_map hr rest]
        congr 1
        rw [cells_ren hr]
        have := fold_set_map (g := ren r) v.cells.zipIdx.toList cells off
        simp only [← Array.foldl_toList, Array.toList_zipIdx, Array.toList_map, List.zipIdx_map] at this ⊢
        rw [← this]
        congr 1
/-- the places of a struct's fields, an array's elements -/
def placesOf (P : Program) (t : TypeId) : Option (Nat → Option (Nat × Nat)) :=
  match P.underlying t with
  | some (.struct fields) => (pureRun P (fields.mapM fun f => do pure (f.offset, ← sizeOf f.type))).map fun places => (places[·]?)
  | some (.array _ e) => (P.info? e).map fun i => fun k => some (k * i.size, i.size)
  | _ => none
def aBuild (P : Program) (t : TypeId) (parts : List (Nat × Value)) : Option Value :=
  match placesOf P t, zeroOf P t with
  | some pl, some zs => (Instr.fill pl zs.toArray parts).map .agg
  | _, _ => none
theorem aBuild_run {P : Program} {t : TypeId} {parts : List (Nat × Value)} {out : Value} (h : aBuild P t parts = some out) {r : Ren} (hr : SymOk r) (w : World) (ps : Array (Nat × Value)) (hps : ps.toList = parts.map fun p => (p.1, ren r p.2)) :
    (Instr.build t ps).run P w = .ok (ren r out) w := by
  unfold aBuild at h
  split at h
  case h_2 => cases h
  case h_1 pl zs hpl hzs =>
    obtain ⟨z, z1, z2, z3⟩ := zeroOf_run hzs w
    have hz0 : z.cells = zs.toArray := by apply Array.ext'; rw [z2]
    have hzr : zs.toArray.map (ren r) = zs.toArray := by
      apply Array.ext'
      rw [Array.toList_map]
      have := (LR.shut (N := fun _ => False) (ρ := r) z3).eq
      exact this
    cases hf : Instr.fill pl zs.toArray parts with
    | none => rw [hf] at h; cases h
    | some c =>
      rw [hf] at h
      simp only [Option.map_some, Option.some.injEq] at h
      subst h
      have hfm := fill_map (place := pl) hr parts zs.toArray
      rw [hzr, hf, ← hps] at hfm
      unfold placesOf at hpl
      split at hpl
      case h_1 fields hu =>
        cases hp : pureRun P (fields.mapM fun f => do pure (f.offset, ← sizeOf f.type)) with
        | none => rw [hp] at hpl; cases hpl
        | some places =>
          rw [hp] at hpl
          simp only [Option.map_some, Option.some.injEq] at hpl
          subst hpl
          have hrun := pureRun_run _ hp w
          unfold Instr.build
          simp only [Sem.run_bind, z1, Result.andThen_ok, hz0, run_underlying hu w]
          simp only [hrun, Result.andThen_ok, hfm, Option.map_some, Sem.run_pure, ren_agg]
      case h_2 n e hu =>
        cases hi : P.info? e with
        | none => rw [hi] at hpl; cases hpl
        | some i =>
          rw [hi] at hpl
          simp only [Option.map_some, Option.some.injEq] at hpl
          subst hpl
          unfold Instr.build
          simp only [Sem.run_bind, z1, Result.andThen_ok, hz0, run_underlying hu w, sizeOf, typeInfo, run_program, hi, Sem.run_pure, hfm, Option.map_some, ren_agg]
      case h_3 => cases hpl
def aBuildSlice (P : Program) (t : TypeId) (len : Nat) (parts : List (Nat × Value)) : AM Value :=
  match P.underlying t with
  | some (.slice e) => (match P.info? e, zeroOf P e with
    | some i, some zs =>
      if len * i.size ≤ 16777216 ∧ len < capTop then
        (match Instr.fill (fun k => some (k * i.size, i.size)) ((Array.range (len * i.size)).map (zs.toArray[· % zs.toArray.size]!)) parts with
        | some c => (aNewRow e c.toList).bind fun n => .pure (.slice (some ⟨n, 0, none⟩) len len)
        | none => .fail)
      else .fail
    | _, _ => .fail)
  | _ => .fail
theorem mod_shut {zs : List Value} {n : Nat} (hz : zs.all shut = true) (r : Ren) : ((Array.range n).map (zs.toArray[· % zs.toArray.size]!)).map (ren r) = (Array.range n).map (zs.toArray[· % zs.toArray.size]!) := by
  rw [Array.map_map]
  congr 1
  funext k
  show ren r (zs.toArray[k % zs.toArray.size]!) = zs.toArray[k % zs.toArray.size]!
  rw [getElem!_def]
  cases hk : zs.toArray[k % zs.toArray.size]? with
  | none => exact ren_shut r rfl
  | some v =>
    have : v ∈ zs := by
      have := Array.mem_of_getElem? hk
      simpa using this
    exact ren_shut r ((List.all_eq_true.1 hz) v this)
theorem aBuildSlice_sound {P : Program} {N : Nat → Prop} {ρ : Ren} {t : TypeId} {len : Nat} {parts : List (Nat × Value)} {ps : Array (Nat × Value)} (hps : ∀ r, Agree N ρ r → ps.toList = parts.map fun p => (p.1, ren r p.2)) :
    Sim P N ρ (aBuildSlice P t len parts) (Instr.buildSlice t len ps) VRel := by
  refine Sim.withSym fun hsym => ?_
  unfold aBuildSlice
  split
  case h_2 => exact Sim.fail
  case h_1 e ht =>
    split
    case h_2 => exact Sim.fail
    case h_1 i zs hi hzs =>
      split
      case isFalse => exact Sim.fail
      case isTrue hb =>
        split
        case h_2 => exact Sim.fail
        case h_1 c hc =>
          intro h v h' he D w hcov hwf hN hr
          obtain ⟨z, z1, z2, z3⟩ := zeroOf_run hzs w
          have hz0 : z.cells = zs.toArray := by apply Array.ext'; rw [z2]
          have hfm : ∀ r, Agree N ρ r → Instr.fill (fun k => some (k * i.size, i.size)) ((Array.range (len * i.size)).map (zs.toArray[· % zs.toArray.size]!)) ps.toList = some (c.map (ren r)) := fun r hr => by
            have := fill_map (place := fun k => some (k * i.size, i.size)) (r := r) (fun k => by rw [hr.σ]; exact hsym k) parts ((Array.range (len * i.size)).map (zs.toArray[· % zs.toArray.size]!))
            rw [mod_shut z3, hc, ← hps r hr] at this
            exact this
          have hfc := hfm ρ (Agree.refl _ _)
          have hLR : LR N ρ c.toList (c.map (ren ρ)).toList := fun r hr => by
            have := hfm r hr
            rw [hfc] at this
            injection this with this
            rw [this, Array.toList_map]
          have hrow := (aNewRow_sound (P := P) (N := N) (ρ := ρ) (e := e) hLR).bind
            (f := fun n => AM.pure (Value.slice (some ⟨n, 0, none⟩) len len)) (g := fun a => Sem.pure (Value.slice (some a) len len))
            (R2 := VRel) (fun N' ρ' x y _ _ hR => Sim.pure (by rw [hR.1]; exact VR_sl hR.2 hb.2)) h v h' he D w hcov hwf hN hr
          obtain ⟨ρ', y, w', q1, q2⟩ := hrow
          refine ⟨ρ', y, w', ?_, q2⟩
          rw [Sem.run_bind'] at q1
          have r0 : ∀ f : Nat → Value, (Array.range 0).map f = #[] := fun f => by simp
          unfold Instr.buildSlice
          simp only [Sem.run_bind, run_underlying ht w, Result.andThen_ok, sizeOf, typeInfo, run_program, hi, Sem.run_pure]
          rw [if_neg (by omega)]
          by_cases hn : len * i.size = 0
          · rw [if_pos hn, hn]
            rw [hn, r0] at hfc
            simp only [Sem.run_bind, Sem.run_pure, Result.andThen_ok]
            rw [r0, hfc]
            exact q1
          · rw [if_neg hn]
            simp only [Sem.run_bind, z1, Sem.run_pure, Result.andThen_ok, hz0, hfc]
            exact q1
end Go.Proofs.Ytljhlnpbomehkaa
