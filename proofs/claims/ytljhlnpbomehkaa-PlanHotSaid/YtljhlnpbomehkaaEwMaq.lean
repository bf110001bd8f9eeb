/- An evaluator of Go code whose memory has names of its own: maps that are written. -/
import Derived.Test.YtljhlnpbomehkaaEwMap
namespace Go.Proofs.Ytljhlnpbomehkaa
set_option linter.unusedVariables false
set_option linter.unusedSimpArgs false

def aSetMap (r : Nat) (es : List MapEntry) (cl : Nat) : AM Unit := if r < 4611686018427387904 then AM.put r (some (.map es cl)) else .fail
theorem aSetMap_run {P : Program} {D N : Nat → Prop} {h h' : AH} {r cl cl0 : Nat} {es : List MapEntry} {es0 es' : Array MapEntry} {ρ : Ren} {w : World} {u : Unit} (e : (aSetMap r es cl).run h = some (u, h')) (hwf : WF h) (hD : D r) (hr : Rel D N ρ h.get w)
    (h0 : w.heap[ρ.φ r]? = some (.map es0 cl0)) (he : EsR N ρ es es'.toList) :
    ∃ w', (setObj (ρ.φ r) (.map es' cl)).run P w = .ok () w' ∧ Step D h ρ w h' ρ w' ∧ Rel D N ρ h'.get w' ∧ h'.next = h.next := by
  unfold aSetMap at e
  split at e
  case isFalse => cases e
  case isTrue hlt =>
    obtain ⟨⟨o', ho'⟩, rfl⟩ := AM.put_some e
    have hrn : r < h.next := by
      rcases Nat.lt_or_ge r h.next with hh | hh
      · exact hh
      · rw [hwf r hh] at ho'; cases ho'
    have hsz : ρ.φ r < w.heap.size := (Array.getElem?_eq_some_iff.1 h0).1
    have hset := put_step (D := D) (w' := { w with heap := w.heap.setIfInBounds (ρ.φ r) (.map es' cl) }) (o := .map es cl) hlt hD (by rw [ho']; rfl) hrn hr
      ⟨es', by simp [hsz], by rw [← Array.length_toList]; exact he.len, fun i e hi => by obtain ⟨e', h1, h2⟩ := he.at_ i e hi; exact ⟨e', by simpa using h1, h2⟩⟩ rfl rfl rfl (by simp) (fun i _ hne => by simp [Array.getElem?_setIfInBounds_ne (Ne.symm hne)])
    exact ⟨_, by simp [setObj, Sem.run, h0], hset.1, hset.2, rfl⟩
def modL (es : List MapEntry) (j : Nat) (f : MapEntry → MapEntry) : List MapEntry := es.modify j f
theorem EsR.modify {N : Nat → Prop} {ρ : Ren} {es es' : List MapEntry} (h : EsR N ρ es es') (j : Nat) {f f' : MapEntry → MapEntry} (hf : ∀ e e', ER N ρ e e' → ER N ρ (f e) (f' e')) : EsR N ρ (es.modify j f) (es'.modify j f') := by
  refine ⟨by simp [h.len], fun i e hi => ?_⟩
  rw [List.getElem?_modify] at hi
  cases hei : es[i]? with
  | none => rw [hei] at hi; cases hi
  | some e0 =>
    rw [hei] at hi
    obtain ⟨e0', g1, g2⟩ := h.at_ i e0 hei
    refine ⟨if j = i then f' e0' else e0', by rw [List.getElem?_modify, g1]; split <;> rfl, ?_⟩
    simp only [Option.map_eq_map, Option.map_some, Option.some.injEq] at hi
    subst hi
    split
    · exact hf _ _ g2
    · exact g2
theorem EsR.push {N : Nat → Prop} {ρ : Ren} {es es' : List MapEntry} (h : EsR N ρ es es') {e e' : MapEntry} (he : ER N ρ e e') : EsR N ρ (es ++ [e]) (es' ++ [e']) := by
  refine ⟨by simp [h.len], fun i x hi => ?_⟩
  by_cases hlt : i < es.length
  · rw [List.getElem?_append_left hlt] at hi
    obtain ⟨x', g1, g2⟩ := h.at_ i x hi
    exact ⟨x', by rw [List.getElem?_append_left (by rw [h.len]; exact hlt)]; exact g1, g2⟩
  · have hie : i = es.length := by
      have := (List.getElem?_eq_some_iff.1 hi).1
      simp at this; omega
    subst hie
    rw [List.getElem?_append_right (Nat.le_refl _)] at hi
    simp at hi
    subst hi
    exact ⟨e', by rw [List.getElem?_append_right (by rw [h.len]; exact Nat.le_refl _), h.len]; simp, he⟩
theorem EsR.erase {N : Nat → Prop} {ρ : Ren} {es es' : List MapEntry} (h : EsR N ρ es es') (j : Nat) : EsR N ρ (es.eraseIdx j) (es'.eraseIdx j) := by
  refine ⟨by simp [List.length_eraseIdx, h.len], fun i x hi => ?_⟩
  rw [List.getElem?_eraseIdx] at hi ⊢
  split at hi
  · rename_i hlt; exact (h.at_ i x hi).imp fun x' hx => ⟨by rw [if_pos hlt]; exact hx.1, hx.2⟩
  · rename_i hlt; exact (h.at_ (i + 1) x hi).imp fun x' hx => ⟨by rw [if_neg hlt]; exact hx.1, hx.2⟩

/-- the key that stays, where it is the same -/
def staysOk (P : Program) (old new : Value) : Bool := shut old && shut new && (match pureRun P (Instr.keyThatStays old new) with
  | some _ => true
  | none => false)
def aMapUpdate (P : Program) (t : TypeId) (m k v : Value) : AM Unit :=
  match P.underlying t, m with
  | some (.map kt _), .map (some r) => (AM.look r).bind fun
    | .map es cl => (match keyIdx P kt k (es.map (·.key)) with
      | some (some j) => (match es[j]? with
        | some e => (match pureRun P (Instr.keyThatStays e.key k) with
          | some k2 => if shut k2 && shut e.key then aSetMap r (es.modify j fun e => { e with key := k2, val := v }) cl else .fail
          | none => .fail)
        | none => .fail)
      | some none => aSetMap r (es ++ [{ key := k, val := v, born := cl }]) (cl + 1)
      | none => .fail)
    | _ => .fail
  | _, _ => .fail
theorem aMapUpdate_sound {P : Program} {N : Nat → Prop} {ρ : Ren} {t : TypeId} {m m' k k' v v' : Value} (hm : VR N ρ m m') (hk : VR N ρ k k') (hv : VR N ρ v v') : Sim P N ρ (aMapUpdate P t m k v) (Instr.mapUpdate t m' k' v') (fun _ _ _ _ => True) := by
  intro h x h' he D w hcov hwf hN hr
  unfold aMapUpdate at he
  split at he
  case h_2 => cases he
  case h_1 kt et r hu =>
    have hm' : m' = .map (some (ρ.φ r)) := by rw [← hm.eq]; simp [ren]
    subst hm'
    obtain ⟨ob, h1, e1, e2⟩ := AM.bind_some he
    have m1 := (AM.look r).mono _ _ _ e1
    have m2 := AM.mono _ _ _ _ e2
    cases ob with
    | row => cases e2
    | iter => cases e2
    | map es cl =>
      obtain ⟨es', p1, p2, p3, p4, p5, p6, p7, p8⟩ := look_map e1 (hcov.of m2) hr
      have hobj : (getObj (ρ.φ r)).run P w = .ok (.map es' cl) w := by simp [getObj, Sem.run, p1]
      dsimp only at e2
      split at e2
      case h_3 => cases e2
      case h_1 j hj =>
        split at e2
        case h_2 => cases e2
        case h_1 e hej =>
          split at e2
          case h_2 => cases e2
          case h_1 k2 hst =>
            split at e2
            case isFalse => cases e2
            case isTrue hsh =>
              rw [Bool.and_eq_true] at hsh
              obtain ⟨q1, q2, q3⟩ := keyIdx_run hj p2 w
              have hk' : k' = k := by rw [← hk.eq]; exact ren_shut _ q1
              subst hk'
              obtain ⟨e', r1, r2⟩ := p2.at_ j e hej
              have hek : e'.key = e.key := by rw [← r2.key.eq]; exact ren_shut _ hsh.2
              obtain ⟨w', s1, s2, s3, s4⟩ := aSetMap_run (P := P) (es' := es'.modify j fun e => { e with key := k2, val := v' }) e2 (m1.wf hwf) p7 p6 p1 (by
                rw [Array.toList_modify]
                exact p2.modify j (fun a b hab => ⟨VR.shut hsh.1, hv, hab.born⟩))
              have hG : Grow N h.next h'.next = N := by rw [s4, p4]; exact Grow.eq_self _ _
              refine ⟨ρ, (), w', ?_, p5.trans s2 m1 m2, by rw [hG]; exact s3, trivial⟩
              have hst' := pureRun_run _ hst w
              have r1' : es'[j]? = some e' := by simpa using r1
              unfold Instr.mapUpdate
              simp only [Sem.run_bind, run_underlying hu w, Result.andThen_ok, hobj, q2 false (.inr rfl), q3, Option.bind_some, entryAt, r1, Option.map_some, Nat.zero_add, r1', Option.getD_some, hek, hst', s1]
      case h_2 hj =>
        obtain ⟨q1, q2, q3⟩ := keyIdx_run hj p2 w
        have hk' : k' = k := by rw [← hk.eq]; exact ren_shut _ q1
        subst hk'
        obtain ⟨w', s1, s2, s3, s4⟩ := aSetMap_run (P := P) (es' := es'.push { key := k', val := v', born := cl }) e2 (m1.wf hwf) p7 p6 p1 (by
          rw [Array.toList_push]
          exact p2.push ⟨VR.shut q1, hv, rfl⟩)
        have hG : Grow N h.next h'.next = N := by rw [s4, p4]; exact Grow.eq_self _ _
        refine ⟨ρ, (), w', ?_, p5.trans s2 m1 m2, by rw [hG]; exact s3, trivial⟩
        unfold Instr.mapUpdate
        simp only [Sem.run_bind, run_underlying hu w, Result.andThen_ok, hobj, q2 false (.inr rfl), q3, Option.bind_none, s1]
def aMapEntry (P : Program) (t : TypeId) (m k : Value) : AM Value :=
  match P.underlying t, m with
  | some (.map kt et), .map (some r) => (AM.look r).bind fun
    | .map es cl => (match keyIdx P kt k (es.map (·.key)) with
      | some (some j) => (match es[j]? with
        | some e => (match pureRun P (Instr.keyThatStays e.key k) with
          | some k2 => if shut k2 && shut e.key then (aSetMap r (es.modify j fun e => { e with key := k2 }) cl).bind fun _ => .pure (.tuple #[e.val, .int .i64 e.born]) else .fail
          | none => .fail)
        | none => .fail)
      | some none => (match zeroVal P et with
        | some z => (aSetMap r (es ++ [{ key := k, val := z, born := cl }]) (cl + 1)).bind fun _ => .pure (.tuple #[z, .int .i64 cl])
        | none => .fail)
      | none => .fail)
    | _ => .fail
  | _, _ => .fail
theorem VR_pair {N : Nat → Prop} {ρ : Ren} {v v' u : Value} (h : VR N ρ v v') (hu : shut u = true) : VR N ρ (.tuple #[v, u]) (.tuple #[v', u]) := fun r hr => by simp [ren, h r hr, ren_shut r hu]
theorem aMapEntry_sound {P : Program} {N : Nat → Prop} {ρ : Ren} {t : TypeId} {m m' k k' : Value} (hm : VR N ρ m m') (hk : VR N ρ k k') : Sim P N ρ (aMapEntry P t m k) (Instr.mapEntry t m' k') VRel := by
  intro h x h' he D w hcov hwf hN hr
  unfold aMapEntry at he
  split at he
  case h_2 => cases he
  case h_1 kt et r hu =>
    have hm' : m' = .map (some (ρ.φ r)) := by rw [← hm.eq]; simp [ren]
    subst hm'
    obtain ⟨ob, h1, e1, e2⟩ := AM.bind_some he
    have m1 := (AM.look r).mono _ _ _ e1
    have m2 := AM.mono _ _ _ _ e2
    cases ob with
    | row => cases e2
    | iter => cases e2
    | map es cl =>
      obtain ⟨es', p1, p2, p3, p4, p5, p6, p7, p8⟩ := look_map e1 (hcov.of m2) hr
      have hobj : (getObj (ρ.φ r)).run P w = .ok (.map es' cl) w := by simp [getObj, Sem.run, p1]
      dsimp only at e2
      split at e2
      case h_3 => cases e2
      case h_1 j hj =>
        split at e2
        case h_2 => cases e2
        case h_1 e hej =>
          split at e2
          case h_2 => cases e2
          case h_1 k2 hst =>
            split at e2
            case isFalse => cases e2
            case isTrue hsh =>
              rw [Bool.and_eq_true] at hsh
              obtain ⟨u, h2, e3, e4⟩ := AM.bind_some e2
              obtain ⟨rfl, rfl⟩ := AM.pure_some e4
              obtain ⟨q1, q2, q3⟩ := keyIdx_run hj p2 w
              have hk' : k' = k := by rw [← hk.eq]; exact ren_shut _ q1
              subst hk'
              obtain ⟨e', r1, r2⟩ := p2.at_ j e hej
              have hek : e'.key = e.key := by rw [← r2.key.eq]; exact ren_shut _ hsh.2
              obtain ⟨w', s1, s2, s3, s4⟩ := aSetMap_run (P := P) (es' := es'.modify j fun e => { e with key := k2 }) e3 (m1.wf hwf) p7 p6 p1 (by
                rw [Array.toList_modify]
                exact p2.modify j (fun a b hab => ⟨VR.shut hsh.1, hab.val, hab.born⟩))
              have hG : Grow N h.next h'.next = N := by rw [s4, p4]; exact Grow.eq_self _ _
              refine ⟨ρ, .tuple #[e'.val, .int .i64 e.born], w', ?_, p5.trans s2 m1 m2, by rw [hG]; exact s3, by rw [hG]; exact VR_pair r2.val rfl⟩
              have hst' := pureRun_run _ hst w
              have r1' : es'[j]? = some e' := by simpa using r1
              unfold Instr.mapEntry
              simp only [Sem.run_bind, run_underlying hu w, Result.andThen_ok, hobj, q2 false (.inr rfl), q3, Option.bind_some, entryAt, r1, Option.map_some, Nat.zero_add, r1', Option.getD_some, hek, hst', s1, r2.born, goInt, Sem.run_pure]
      case h_2 hj =>
        split at e2
        case h_2 => cases e2
        case h_1 z hz =>
          obtain ⟨z1, z2⟩ := zeroVal_run hz w
          obtain ⟨u, h2, e3, e4⟩ := AM.bind_some e2
          obtain ⟨rfl, rfl⟩ := AM.pure_some e4
          obtain ⟨q1, q2, q3⟩ := keyIdx_run hj p2 w
          have hk' : k' = k := by rw [← hk.eq]; exact ren_shut _ q1
          subst hk'
          obtain ⟨w', s1, s2, s3, s4⟩ := aSetMap_run (P := P) (es' := es'.push { key := k', val := z, born := cl }) e3 (m1.wf hwf) p7 p6 p1 (by
            rw [Array.toList_push]
            exact p2.push ⟨VR.shut q1, VR.shut z2, rfl⟩)
          have hG : Grow N h.next h'.next = N := by rw [s4, p4]; exact Grow.eq_self _ _
          refine ⟨ρ, .tuple #[z, .int .i64 cl], w', ?_, p5.trans s2 m1 m2, by rw [hG]; exact s3, VR_pair (VR.shut z2) rfl⟩
          unfold Instr.mapEntry
          simp only [Sem.run_bind, run_underlying hu w, Result.andThen_ok, hobj, q2 false (.inr rfl), q3, Option.bind_none, z1, s1, goInt, Sem.run_pure]
def bornIdx (es : List MapEntry) (b : Int) : Option Nat := es.findIdx? fun e => (e.born : Int) == b
def aEntryStore (m s v : Value) : AM Unit :=
  match m, s with
  | .map (some r), .int _ b => (AM.look r).bind fun
    | .map es cl => (match bornIdx es b with
      | some j => aSetMap r (es.modify j fun e => { e with val := v }) cl
      | none => .fail)
    | _ => .fail
  | _, _ => .fail
theorem EsR.born {N : Nat → Prop} {ρ : Ren} (b : Int) : ∀ {es es' : List MapEntry}, EsR N ρ es es' → bornIdx es' b = bornIdx es b
  | [], [], _ => rfl
  | [], _ :: _, h => by have := h.len; simp at this
  | _ :: _, [], h => by have := h.len; simp at this
  | e :: r, e' :: r', h => by
    obtain ⟨x, hx, hR⟩ := h.at_ 0 e rfl
    simp at hx; subst hx
    have ht : EsR N ρ r r' := ⟨by have := h.len; simp at this; exact this, fun i e hi => h.at_ (i + 1) e hi⟩
    have := ht.born b
    unfold bornIdx at this ⊢
    simp only [List.findIdx?_cons, hR.born, this]
theorem aEntryStore_sound {P : Program} {N : Nat → Prop} {ρ : Ren} {t : TypeId} {m m' s s' v v' : Value} (hm : VR N ρ m m') (hs : VR N ρ s s') (hv : VR N ρ v v') : Sim P N ρ (aEntryStore m s v) (Instr.entryStore t m' s' v') (fun _ _ _ _ => True) := by
  intro h x h' he D w hcov hwf hN hr
  unfold aEntryStore at he
  split at he
  case h_2 => cases he
  case h_1 r k b =>
    have hm' : m' = .map (some (ρ.φ r)) := by rw [← hm.eq]; simp [ren]
    have hs' : s' = .int k b := by rw [← hs.eq]; simp [ren]
    subst hm'; subst hs'
    obtain ⟨ob, h1, e1, e2⟩ := AM.bind_some he
    have m1 := (AM.look r).mono _ _ _ e1
    have m2 := AM.mono _ _ _ _ e2
    cases ob with
    | row => cases e2
    | iter => cases e2
    | map es cl =>
      obtain ⟨es', p1, p2, p3, p4, p5, p6, p7, p8⟩ := look_map e1 (hcov.of m2) hr
      have hobj : (getObj (ρ.φ r)).run P w = .ok (.map es' cl) w := by simp [getObj, Sem.run, p1]
      dsimp only at e2
      cases hj : bornIdx es b with
      | none => rw [hj] at e2; cases e2
      | some j =>
        rw [hj] at e2
        obtain ⟨w', s1, s2, s3, s4⟩ := aSetMap_run (P := P) (es' := es'.modify j fun e => { e with val := v' }) e2 (m1.wf hwf) p7 p6 p1 (by
          rw [Array.toList_modify]
          exact p2.modify j (fun a b hab => ⟨hab.key, hv, hab.born⟩))
        have hG : Grow N h.next h'.next = N := by rw [s4, p4]; exact Grow.eq_self _ _
        refine ⟨ρ, (), w', ?_, p5.trans s2 m1 m2, by rw [hG]; exact s3, trivial⟩
        have hj' : es'.findIdx? (fun e => (e.born : Int) == b) = some j := by
          have := p2.born b
          rw [hj] at this
          unfold bornIdx at this
          have e0 : es' = es'.toList.toArray := by simp
          rw [e0, List.findIdx?_toArray]; exact this
        unfold Instr.entryStore
        simp only [Sem.run_bind, Result.andThen_ok, hobj, asInt, asIntOf, Sem.run_pure, hj', s1]
def aDelete (P : Program) (t : TypeId) (m k : Value) : AM Value :=
  match P.underlying t, m with
  | some (.map kt _), .map none => if okKey P kt k true && shut k then .pure (.tuple #[]) else .fail
  | some (.map kt _), .map (some r) => (AM.look r).bind fun
    | .map es cl => (match keyIdx P kt k (es.map (·.key)) with
      | some (some j) => (match es[j]? with
        | some _ => (aSetMap r (es.eraseIdx j) cl).bind fun _ => .pure (.tuple #[])
        | none => .fail)
      | some none => (aSetMap r es cl).bind fun _ => .pure (.tuple #[])
      | none => .fail)
    | _ => .fail
  | _, _ => .fail
theorem aDelete_sound {P : Program} {N : Nat → Prop} {ρ : Ren} {t t2 ty : TypeId} {m m' k k' : Value} (hm : VR N ρ m m') (hk : VR N ρ k k') : Sim P N ρ (aDelete P t m k) (Builtin.delete_ #[t, t2] ty #[m', k']) VRel := by
  intro h x h' he D w hcov hwf hN hr
  unfold aDelete at he
  split at he
  case h_3 => cases he
  case h_1 kt et hu =>
    have hm' : m' = .map none := by rw [← hm.eq]; simp [ren]
    subst hm'
    split at he
    case isFalse => cases he
    case isTrue hc =>
      rw [Bool.and_eq_true] at hc
      obtain ⟨rfl, rfl⟩ := AM.pure_some he
      have hk' : k' = k := by rw [← hk.eq]; exact ren_shut _ hc.2
      subst hk'
      refine ⟨ρ, .tuple #[], w, ?_, Step.refl _ _ _ _, by rw [Grow.eq_self]; exact hr, VR.shut rfl⟩
      simp [Builtin.delete_, run_underlying hu w, okKey_run hc.1 w]
  case h_2 kt et r hu =>
    have hm' : m' = .map (some (ρ.φ r)) := by rw [← hm.eq]; simp [ren]
    subst hm'
    obtain ⟨ob, h1, e1, e2⟩ := AM.bind_some he
    have m1 := (AM.look r).mono _ _ _ e1
    have m2 := AM.mono _ _ _ _ e2
    cases ob with
    | row => cases e2
    | iter => cases e2
    | map es cl =>
      obtain ⟨es', p1, p2, p3, p4, p5, p6, p7, p8⟩ := look_map e1 (hcov.of m2) hr
      have hobj : (getObj (ρ.φ r)).run P w = .ok (.map es' cl) w := by simp [getObj, Sem.run, p1]
      have hemp : es'.isEmpty = es'.toList.isEmpty := by simp
      dsimp only at e2
      split at e2
      case h_3 => cases e2
      case h_1 j hj =>
        split at e2
        case h_2 => cases e2
        case h_1 e hej =>
          obtain ⟨u, h2, e3, e4⟩ := AM.bind_some e2
          obtain ⟨rfl, rfl⟩ := AM.pure_some e4
          obtain ⟨q1, q2, q3⟩ := keyIdx_run hj p2 w
          have hk' : k' = k := by rw [← hk.eq]; exact ren_shut _ q1
          subst hk'
          obtain ⟨e', r1, r2⟩ := p2.at_ j e hej
          obtain ⟨w', s1, s2, s3, s4⟩ := aSetMap_run (P := P) (es' := es'.eraseIdxIfInBounds j) e3 (m1.wf hwf) p7 p6 p1 (by
            rw [Array.toList_eraseIdxIfInBounds]
            exact p2.erase j)
          have hG : Grow N h.next h'.next = N := by rw [s4, p4]; exact Grow.eq_self _ _
          refine ⟨ρ, .tuple #[], w', ?_, p5.trans s2 m1 m2, by rw [hG]; exact s3, VR.shut rfl⟩
          have h0 : (#[t, t2] : Array TypeId)[0]? = some t := rfl
          have h1' : (#[Value.map (some (ρ.φ r)), k'] : Array Value)[0]? = some (.map (some (ρ.φ r))) := rfl
          have h2' : (#[Value.map (some (ρ.φ r)), k'] : Array Value)[1]? = some k' := rfl
          unfold Builtin.delete_
          simp only [h0, h1', h2', Sem.run_bind, run_underlying hu w, Result.andThen_ok, hobj, q2 es'.isEmpty (.inl hemp), q3, Option.bind_some, entryAt, r1, Option.map_some, Nat.zero_add, s1, Sem.run_pure]
      case h_2 hj =>
        obtain ⟨u, h2, e3, e4⟩ := AM.bind_some e2
        obtain ⟨rfl, rfl⟩ := AM.pure_some e4
        obtain ⟨q1, q2, q3⟩ := keyIdx_run hj p2 w
        have hk' : k' = k := by rw [← hk.eq]; exact ren_shut _ q1
        subst hk'
        obtain ⟨w', s1, s2, s3, s4⟩ := aSetMap_run (P := P) (es' := es') e3 (m1.wf hwf) p7 p6 p1 p2
        have hG : Grow N h.next h'.next = N := by rw [s4, p4]; exact Grow.eq_self _ _
        refine ⟨ρ, .tuple #[], w', ?_, p5.trans s2 m1 m2, by rw [hG]; exact s3, VR.shut rfl⟩
        have h0 : (#[t, t2] : Array TypeId)[0]? = some t := rfl
        have h1' : (#[Value.map (some (ρ.φ r)), k'] : Array Value)[0]? = some (.map (some (ρ.φ r))) := rfl
        have h2' : (#[Value.map (some (ρ.φ r)), k'] : Array Value)[1]? = some k' := rfl
        unfold Builtin.delete_
        simp only [h0, h1', h2', Sem.run_bind, run_underlying hu w, Result.andThen_ok, hobj, q2 es'.isEmpty (.inl hemp), q3, Option.bind_none, s1, Sem.run_pure]
def aMakeMap (P : Program) (t : TypeId) (res : Option Value) : AM Value :=
  match res with
  | none => (AM.new (.map [] 0)).bind fun n => .pure (.map (some n))
  | some v => (match P.underlying t, v with
    | some (.map _ _), .int _ _ => (AM.new (.map [] 0)).bind fun n => .pure (.map (some n))
    | _, _ => .fail)
theorem newMap_sound {P : Program} {N : Nat → Prop} {ρ : Ren} : Sim P N ρ ((AM.new (.map [] 0)).bind fun n => .pure (.map (some n))) (do pure (Value.map (some (← newObj (.map #[] 0))))) VRel := by
  intro h x h' he D w hcov hwf hN hr
  obtain ⟨n, h1, e1, e2⟩ := AM.bind_some he
  obtain ⟨rfl, hl, rfl⟩ := AM.new_some e1
  obtain ⟨rfl, rfl⟩ := AM.pure_some e2
  have hNn : ¬ N h.next := hN h.next ⟨Nat.le_refl _, Nat.lt_succ_self _⟩
  have hst := new_step (D := D) (w' := { w with heap := w.heap.push (.map #[] 0) }) (o := .map [] 0) hl hwf hNn hr w.heap.size 0 (Nat.le_refl _)
    ⟨#[], by rw [Ren.at_φ]; simp, rfl, fun i e hi => by simp at hi⟩ rfl rfl rfl (by simp) (fun i hi => by
      show (w.heap.push _)[i]? = _
      rw [Array.getElem?_push, if_neg (by omega)])
  exact ⟨_, _, _, rfl, hst.1, hst.2, VR_map⟩
theorem aMakeMap_sound {P : Program} {N : Nat → Prop} {ρ : Ren} {t : TypeId} {res res' : Option Value} (h : res' = res.map (ren ρ)) : Sim P N ρ (aMakeMap P t res) (Instr.makeMap t res') VRel := by
  cases res with
  | none =>
    subst h
    intro h0 x h' he D w hcov hwf hN hr
    obtain ⟨ρ', y, w', q1, q2⟩ := newMap_sound (P := P) h0 x h' he D w hcov hwf hN hr
    exact ⟨ρ', y, w', by unfold Instr.makeMap; simpa using q1, q2⟩
  | some v =>
    unfold aMakeMap
    dsimp only
    split
    case h_2 => exact Sim.fail
    case h_1 kt et k n hu =>
      subst h
      intro h0 x h' he D w hcov hwf hN hr
      obtain ⟨ρ', y, w', q1, q2⟩ := newMap_sound (P := P) h0 x h' he D w hcov hwf hN hr
      refine ⟨ρ', y, w', ?_, q2⟩
      unfold Instr.makeMap
      simp [run_underlying hu w, ren, asInt, asIntOf]
      simpa using q1
def aLenMap (P : Program) (t : TypeId) (m : Value) : AM Value :=
  match P.underlying t, m with
  | some (.map _ _), .map none => .pure (.int .i64 0)
  | some (.map _ _), .map (some r) => (AM.look r).bind fun
    | .map es _ => .pure (.int .i64 es.length)
    | _ => .fail
  | _, _ => .fail
theorem aLenMap_sound {P : Program} {N : Nat → Prop} {ρ : Ren} {t ty : TypeId} {m m' : Value} (hm : VR N ρ m m') : Sim P N ρ (aLenMap P t m) (Builtin.len_ #[t] ty #[m']) VRel := by
  intro h x h' he D w hcov hwf hN hr
  unfold aLenMap at he
  split at he
  case h_3 => cases he
  case h_1 kt et hu =>
    have hm' : m' = .map none := by rw [← hm.eq]; simp [ren]
    subst hm'
    obtain ⟨rfl, rfl⟩ := AM.pure_some he
    refine ⟨ρ, .int .i64 0, w, ?_, Step.refl _ _ _ _, by rw [Grow.eq_self]; exact hr, VR.shut rfl⟩
    simp [Builtin.len_, run_underlying hu w, goInt]
  case h_2 kt et r hu =>
    have hm' : m' = .map (some (ρ.φ r)) := by rw [← hm.eq]; simp [ren]
    subst hm'
    obtain ⟨ob, h1, e1, e2⟩ := AM.bind_some he
    cases ob with
    | row => cases e2
    | iter => cases e2
    | map es cl =>
      obtain ⟨rfl, rfl⟩ := AM.pure_some e2
      obtain ⟨es', p1, p2, p3, p4, p5, p6, p7, p8⟩ := look_map e1 hcov hr
      have hobj : (getObj (ρ.φ r)).run P w = .ok (.map es' cl) w := by simp [getObj, Sem.run, p1]
      have hG : Grow N h.next h'.next = N := by rw [p4]; exact Grow.eq_self _ _
      have hlen : es'.size = es.length := by rw [← Array.length_toList]; exact p2.len
      refine ⟨ρ, .int .i64 es.length, w, ?_, p5, by rw [hG]; exact p6, VR.shut rfl⟩
      simp [Builtin.len_, run_underlying hu w, goInt, hobj, hlen]
end Go.Proofs.Ytljhlnpbomehkaa
