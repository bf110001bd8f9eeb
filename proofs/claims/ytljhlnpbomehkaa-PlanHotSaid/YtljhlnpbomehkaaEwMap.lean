/- An evaluator of Go code whose memory has names of its own: maps. -/
import Derived.Test.YtljhlnpbomehkaaEwP
namespace Go.Proofs.Ytljhlnpbomehkaa
set_option linter.unusedVariables false
set_option linter.unusedSimpArgs false

def nowK (d : TypeDesc) (k : Value) : List Value → Option (Option Nat)
  | [] => some none
  | e :: r => match Instr.sameNow d k e with
    | some true => some (some 0)
    | some false => (nowK d k r).map fun o => o.map (· + 1)
    | none => none
def askK (P : Program) (kt : TypeId) (k : Value) : List Value → Option (Option Nat)
  | [] => some none
  | e :: r => match pureRun P (Op.equal kt k e) with
    | some true => some (some 0)
    | some false => (askK P kt k r).map fun o => o.map (· + 1)
    | none => none
def entryAt (es : List MapEntry) (i j : Nat) : Option (Nat × Value) := (es[j]?).map fun e => (i + j, e.val)
theorem findNow_K (d : TypeDesc) (k : Value) : ∀ (es : List MapEntry) (i : Nat), Instr.findNow d k es i = (nowK d k (es.map (·.key))).map fun o => o.bind (entryAt es i)
  | [], i => rfl
  | e :: r, i => by
    simp only [Instr.findNow, List.map_cons, nowK]
    cases hs : Instr.sameNow d k e.key with
    | none => rfl
    | some b =>
      cases b with
      | true => simp [entryAt]
      | false =>
        simp only
        rw [findNow_K d k r (i + 1)]
        cases nowK d k (r.map (·.key)) with
        | none => rfl
        | some o =>
          cases o with
          | none => rfl
          | some j =>
            simp only [Option.map_some, Option.bind_some, entryAt, List.getElem?_cons_succ]
            rw [show i + 1 + j = i + (j + 1) from by omega]
theorem findAsking_K {P : Program} (kt : TypeId) (k : Value) : ∀ (es : List MapEntry) (i : Nat) (o : Option Nat), askK P kt k (es.map (·.key)) = some o → ∀ w, (Instr.findAsking kt k es i).run P w = .ok (o.bind (entryAt es i)) w
  | [], i, o, h, w => by simp [askK] at h; subst h; rfl
  | e :: r, i, o, h, w => by
    simp only [List.map_cons, askK] at h
    cases hp : pureRun P (Op.equal kt k e.key) with
    | none => rw [hp] at h; cases h
    | some b =>
      rw [hp] at h
      have hrun := pureRun_run _ hp w
      simp only [Instr.findAsking, Sem.run_bind, hrun, Result.andThen_ok]
      cases b with
      | true => simp at h; subst h; simp [entryAt]
      | false =>
        simp only at h
        cases ha : askK P kt k (r.map (·.key)) with
        | none => rw [ha] at h; cases h
        | some o' =>
          rw [ha] at h
          simp only [Option.map_some, Option.some.injEq] at h
          subst h
          have := findAsking_K kt k r (i + 1) o' ha w
          simp only [Bool.false_eq_true, if_false, this]
          cases o' with
          | none => rfl
          | some j =>
            simp only [Option.map_some, Option.bind_some, entryAt, List.getElem?_cons_succ]
            rw [show i + 1 + j = i + (j + 1) from by omega]
def okKey (P : Program) (kt : TypeId) (k : Value) (e : Bool) : Bool := match pureRun P (Instr.checkKey e 10000 kt k) with
  | some _ => true
  | none => false
theorem okKey_run {P : Program} {kt : TypeId} {k : Value} {e : Bool} (h : okKey P kt k e = true) (w : World) : (Instr.checkKey e 10000 kt k).run P w = .ok () w := by
  unfold okKey at h
  cases hp : pureRun P (Instr.checkKey e 10000 kt k) with
  | none => rw [hp] at h; cases h
  | some u => exact pureRun_run _ hp w
/-- where a key is, of keys that are no symbols -/
def keyIdx (P : Program) (kt : TypeId) (k : Value) (keys : List Value) : Option (Option Nat) :=
  if shut k && keys.all shut && (okKey P kt k keys.isEmpty && okKey P kt k false) then
    match P.underlying kt with
    | some d => (match nowK d k keys with
      | some o => some o
      | none => askK P kt k keys)
    | none => none
  else none
/-- the entries of a heap by names, those of the world's -/
structure EsR (N : Nat → Prop) (ρ : Ren) (es : List MapEntry) (es' : List MapEntry) : Prop where
  len : es'.length = es.length
  at_ : ∀ (i : Nat) (e : MapEntry), es[i]? = some e → ∃ e', es'[i]? = some e' ∧ ER N ρ e e'
theorem EsR.keys {N : Nat → Prop} {ρ : Ren} : ∀ {es es' : List MapEntry}, EsR N ρ es es' → (es.map (·.key)).all shut = true → es'.map (·.key) = es.map (·.key)
  | [], [], _, _ => rfl
  | [], _ :: _, h, _ => by have := h.len; simp at this
  | _ :: _, [], h, _ => by have := h.len; simp at this
  | e :: r, e' :: r', h, hs => by
    simp only [List.map_cons, List.all_cons, Bool.and_eq_true] at hs
    obtain ⟨x, hx, hR⟩ := h.at_ 0 e rfl
    simp at hx; subst hx
    have hk : e'.key = e.key := by rw [← hR.key.eq]; exact ren_shut _ hs.1
    have ht : EsR N ρ r r' := ⟨by have := h.len; simp at this; exact this, fun i e hi => h.at_ (i + 1) e hi⟩
    simp only [List.map_cons, hk, ht.keys hs.2]
theorem keyIdx_run {P : Program} {kt : TypeId} {k : Value} {N : Nat → Prop} {ρ : Ren} {es es' : List MapEntry} {o : Option Nat} (h : keyIdx P kt k (es.map (·.key)) = some o) (hr : EsR N ρ es es') (w : World) :
    shut k = true ∧ (∀ b, b = es'.isEmpty ∨ b = false → (Instr.checkKey b 10000 kt k).run P w = .ok () w) ∧ (Instr.findKey kt k es').run P w = .ok (o.bind (entryAt es' 0)) w := by
  unfold keyIdx at h
  split at h
  case isFalse => cases h
  case isTrue hc =>
    simp only [Bool.and_eq_true] at hc
    obtain ⟨⟨hk, hks⟩, hck1, hck2⟩ := hc
    have hkeys := hr.keys hks
    have hemp : es'.isEmpty = (es.map (·.key)).isEmpty := by rw [← hkeys]; cases es' <;> rfl
    refine ⟨hk, fun b hb => ?_, ?_⟩
    · rcases hb with rfl | rfl
      · rw [hemp]; exact okKey_run hck1 w
      · exact okKey_run hck2 w
    · cases hu : P.underlying kt with
      | none => rw [hu] at h; cases h
      | some d =>
        rw [hu] at h
        dsimp only at h
        unfold Instr.findKey
        simp only [Sem.run_bind, run_underlying hu w, Result.andThen_ok]
        rw [findNow_K, hkeys]
        cases hn : nowK d k (es.map (·.key)) with
        | some o' =>
          rw [hn] at h
          injection h with h; subst h
          rfl
        | none =>
          rw [hn] at h
          simp only [Option.map_none]
          exact findAsking_K kt k es' 0 o (by rw [hkeys]; exact h) w
theorem ER.mono {N N' : Nat → Prop} {ρ ρ' : Ren} {e e' : MapEntry} (h : ER N ρ e e') (ha : Agree N ρ ρ') (hN : ∀ n, N n → N' n) : ER N' ρ' e e' := ⟨h.key.mono ha hN, h.val.mono ha hN, h.born⟩
/-- what lies behind a map -/
theorem look_map {D N : Nat → Prop} {h h' : AH} {n : Nat} {es : List MapEntry} {cl : Nat} {ρ : Ren} {w : World} (e : (AM.look n).run h = some (.map es cl, h')) (hc : Cov D h') (hr : Rel D N ρ h.get w) :
    ∃ es', w.heap[ρ.φ n]? = some (.map es' cl) ∧ EsR N ρ es es'.toList ∧ h'.m = h.m ∧ h'.next = h.next ∧ Step D h ρ w h' ρ w ∧ Rel D N ρ h'.get w ∧ D n ∧ h.get n = some (.map es cl) := by
  obtain ⟨g1, rfl⟩ := AM.look_some e
  obtain ⟨es', q1, q2, q3⟩ := hr.holds n _ hc.look g1
  have hls := look_step (n := n) hr
  rw [Grow.eq_self] at hls
  refine ⟨es', q1, ⟨by simpa using q2, fun i e hi => ?_⟩, rfl, rfl, hls.1, hls.2, hc.look, g1⟩
  obtain ⟨e', h1, h2⟩ := q3 i e hi
  exact ⟨e', by simpa using h1, h2⟩

def zeroVal (P : Program) (t : TypeId) : Option Value :=
  match P.info? t with
  | some i => match i.zero with
    | some z => if shut z then some z else none
    | none => none
  | none => none
theorem zeroVal_run {P : Program} {t : TypeId} {z : Value} (h : zeroVal P t = some z) (w : World) : (zeroValue t).run P w = .ok z w ∧ shut z = true := by
  unfold zeroVal at h
  cases hi : P.info? t with
  | none => rw [hi] at h; cases h
  | some i =>
    rw [hi] at h
    dsimp only at h
    cases hz : i.zero with
    | none => rw [hz] at h; cases h
    | some z' =>
      rw [hz] at h
      dsimp only at h
      split at h
      · rename_i hs
        injection h with h; subst h
        exact ⟨by simp [zeroValue, typeInfo, hi, hz], hs⟩
      · cases h

def aLookup (P : Program) (t : TypeId) (m k : Value) (ok : Bool) : AM Value :=
  match P.underlying t with
  | some (.map kt et) => (match zeroVal P et with
    | some z => (match m with
      | .map none => (match keyIdx P kt k [] with
        | some _ => .pure (if ok then .tuple #[z, .bool false] else z)
        | none => .fail)
      | .map (some r) => (AM.look r).bind fun
        | .map es _ => (match keyIdx P kt k (es.map (·.key)) with
          | some (some j) => (match es[j]? with
            | some e => .pure (if ok then .tuple #[e.val, .bool true] else e.val)
            | none => .fail)
          | some none => .pure (if ok then .tuple #[z, .bool false] else z)
          | none => .fail)
        | _ => .fail
      | _ => .fail)
    | none => .fail)
  | _ => .fail
theorem VR_ok {N : Nat → Prop} {ρ : Ren} {v v' : Value} {b ok : Bool} (h : VR N ρ v v') : VR N ρ (if ok then .tuple #[v, .bool b] else v) (if ok then .tuple #[v', .bool b] else v') := by
  cases ok with
  | false => exact h
  | true => intro r hr; simp [ren, h r hr]
theorem aLookup_sound {P : Program} {N : Nat → Prop} {ρ : Ren} {t : TypeId} {m m' k k' : Value} {ok : Bool} (hm : VR N ρ m m') (hk : VR N ρ k k') : Sim P N ρ (aLookup P t m k ok) (Instr.lookup t m' k' ok) VRel := by
  intro h x h' he D w hcov hwf hN hr
  unfold aLookup at he
  split at he
  case h_2 => cases he
  case h_1 kt et hu =>
    split at he
    case h_2 => cases he
    case h_1 z hz =>
      obtain ⟨z1, z2⟩ := zeroVal_run hz w
      split at he
      case h_3 => cases he
      case h_1 =>
        have hm' : m' = .map none := by rw [← hm.eq]; simp [ren]
        subst hm'
        split at he
        case h_2 => cases he
        case h_1 o ho =>
          obtain ⟨rfl, rfl⟩ := AM.pure_some he
          obtain ⟨q1, q2, q3⟩ := keyIdx_run (es := []) (es' := []) (N := N) (ρ := ρ) ho ⟨rfl, fun i e hi => by simp at hi⟩ w
          have hk' : k' = k := by rw [← hk.eq]; exact ren_shut _ q1
          subst hk'
          have ho' : o.bind (entryAt [] 0) = none := by cases o <;> simp [entryAt]
          rw [ho'] at q3
          refine ⟨ρ, _, w, ?_, Step.refl _ _ _ _, by rw [Grow.eq_self]; exact hr, VR_ok (VR.shut z2)⟩
          unfold Instr.lookup
          simp only [Sem.run_bind, run_underlying hu w, Result.andThen_ok, Sem.run_pure, q2 true (.inl rfl), q3, z1, Array.isEmpty_empty, show (#[] : Array MapEntry).toList = [] from rfl]
      case h_2 r =>
        obtain ⟨ob, h1, e1, e2⟩ := AM.bind_some he
        cases ob with
        | row => cases e2
        | iter => cases e2
        | map es cl =>
          have hm' : m' = .map (some (ρ.φ r)) := by rw [← hm.eq]; simp [ren]
          subst hm'
          have cov1 : Cov D h1 := hcov.of (AM.mono _ _ _ _ e2)
          obtain ⟨es', p1, p2, p3, p4, p5, p6, p7, p8⟩ := look_map e1 cov1 hr
          have hG : Grow N h.next h1.next = N := by rw [p4]; exact Grow.eq_self _ _
          have hobj : (getObj (ρ.φ r)).run P w = .ok (.map es' cl) w := by simp [getObj, Sem.run, p1]
          have hemp : es'.isEmpty = es'.toList.isEmpty := by simp
          dsimp only at e2
          split at e2
          case h_3 => cases e2
          case h_1 j hj =>
            split at e2
            case h_2 => cases e2
            case h_1 e hej =>
              obtain ⟨rfl, rfl⟩ := AM.pure_some e2
              obtain ⟨q1, q2, q3⟩ := keyIdx_run hj p2 w
              have hk' : k' = k := by rw [← hk.eq]; exact ren_shut _ q1
              subst hk'
              obtain ⟨e', r1, r2⟩ := p2.at_ j e hej
              refine ⟨ρ, _, w, ?_, p5, by rw [hG]; exact p6, by rw [hG]; exact VR_ok r2.val⟩
              unfold Instr.lookup
              simp only [Sem.run_bind, run_underlying hu w, Result.andThen_ok, hobj, Sem.run_pure, q2 es'.isEmpty (.inl hemp), q3, Option.bind_some, entryAt, r1, Option.map_some]
          case h_2 hj =>
            obtain ⟨rfl, rfl⟩ := AM.pure_some e2
            obtain ⟨q1, q2, q3⟩ := keyIdx_run hj p2 w
            have hk' : k' = k := by rw [← hk.eq]; exact ren_shut _ q1
            subst hk'
            refine ⟨ρ, _, w, ?_, p5, by rw [hG]; exact p6, VR_ok (VR.shut z2)⟩
            unfold Instr.lookup
            simp only [Sem.run_bind, run_underlying hu w, Result.andThen_ok, hobj, Sem.run_pure, q2 es'.isEmpty (.inl hemp), q3, Option.bind_none, z1]
end Go.Proofs.Ytljhlnpbomehkaa
