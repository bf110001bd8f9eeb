/- An evaluator of Go code whose memory has names of its own: ranges over maps. -/
import Derived.Test.YtljhlnpbomehkaaEwMaq
namespace Go.Proofs.Ytljhlnpbomehkaa
set_option linter.unusedVariables false
set_option linter.unusedSimpArgs false

theorem EsR.tail {N : Nat → Prop} {ρ : Ren} {e e' : MapEntry} {r r' : List MapEntry} (h : EsR N ρ (e :: r) (e' :: r')) : ER N ρ e e' ∧ EsR N ρ r r' := by
  obtain ⟨x, hx, hR⟩ := h.at_ 0 e rfl
  simp at hx; subst hx
  exact ⟨hR, ⟨by have := h.len; simp at this; exact this, fun i e hi => h.at_ (i + 1) e hi⟩⟩
theorem EsR.nil {N : Nat → Prop} {ρ : Ren} : EsR N ρ [] [] := ⟨rfl, fun i e hi => by simp at hi⟩
theorem EsR.cons {N : Nat → Prop} {ρ : Ren} {e e' : MapEntry} {r r' : List MapEntry} (h : ER N ρ e e') (k : EsR N ρ r r') : EsR N ρ (e :: r) (e' :: r') :=
  ⟨by simp [k.len], fun i x hi => by
    cases i with
    | zero => simp at hi; subst hi; exact ⟨e', rfl, h⟩
    | succ i => simpa using k.at_ i x (by simpa using hi)⟩
theorem EsR.filter {N : Nat → Prop} {ρ : Ren} (p : Nat → Bool) : ∀ {es es' : List MapEntry}, EsR N ρ es es' → EsR N ρ (es.filter fun e => p e.born) (es'.filter fun e => p e.born)
  | [], [], _ => EsR.nil
  | [], _ :: _, h => by have := h.len; simp at this
  | _ :: _, [], h => by have := h.len; simp at this
  | e :: r, e' :: r', h => by
    obtain ⟨h1, h2⟩ := h.tail
    simp only [List.filter_cons, h1.born]
    split
    · exact EsR.cons h1 (EsR.filter p h2)
    · exact EsR.filter p h2
theorem EsR.app {N : Nat → Prop} {ρ : Ren} : ∀ {es es' fs fs' : List MapEntry}, EsR N ρ es es' → EsR N ρ fs fs' → EsR N ρ (es ++ fs) (es' ++ fs')
  | [], [], _, _, _, k => k
  | [], _ :: _, _, _, h, _ => by have := h.len; simp at this
  | _ :: _, [], _, _, h, _ => by have := h.len; simp at this
  | e :: r, e' :: r', fs, fs', h, k => by
    obtain ⟨h1, h2⟩ := h.tail
    exact EsR.cons h1 (EsR.app h2 k)
theorem EsR.allB {N : Nat → Prop} {ρ : Ren} (p : Nat → Bool) : ∀ {es es' : List MapEntry}, EsR N ρ es es' → (es'.all fun e => p e.born) = (es.all fun e => p e.born)
  | [], [], _ => rfl
  | [], _ :: _, h => by have := h.len; simp at this
  | _ :: _, [], h => by have := h.len; simp at this
  | e :: r, e' :: r', h => by
    obtain ⟨h1, h2⟩ := h.tail
    simp only [List.all_cons, h1.born, EsR.allB p h2]
theorem EsR.emptyB {N : Nat → Prop} {ρ : Ren} : ∀ {es es' : List MapEntry}, EsR N ρ es es' → es'.isEmpty = es.isEmpty
  | [], [], _ => rfl
  | [], _ :: _, h => by have := h.len; simp at this
  | _ :: _, [], h => by have := h.len; simp at this
  | _ :: _, _ :: _, _ => rfl

def aRange (P : Program) (t : TypeId) (x : Value) : AM Value :=
  match P.underlying t, x with
  | some (.map _ _), .map none => (AM.new (.iter none 0 [] 0)).bind fun n => .pure (.pointer (some ⟨n, 0, none⟩))
  | some (.map _ _), .map (some r) => (AM.look r).bind fun
    | .map _ cl => (AM.new (.iter (some r) cl [] cl)).bind fun n => .pure (.pointer (some ⟨n, 0, none⟩))
    | _ => .fail
  | _, _ => .fail
theorem newIter_step {P : Program} {D N : Nat → Prop} {h : AH} {ρ : Ren} {w : World} (m : Option Nat) (since st : Nat) (hl : h.next < 4611686018427387904) (hwf : WF h) (hN : ¬ N h.next) (hm : ∀ r, m = some r → N r) (hr : Rel D N ρ h.get w) :
    ∃ ρ' w', (newObj (.mapIter (m.map ρ.φ) since #[] st)).run P w = .ok w.heap.size w' ∧ Step D h ρ w { h with m := h.m.set 64 h.next (some (.iter m since [] st)), next := h.next + 1 } ρ' w' ∧
      Rel D (Grow N h.next (h.next + 1)) ρ' ({ h with m := h.m.set 64 h.next (some (.iter m since [] st)), next := h.next + 1 } : AH).get w' ∧ VR (Grow N h.next (h.next + 1)) ρ' (.pointer (some ⟨h.next, 0, none⟩)) (.pointer (some ⟨w.heap.size, 0, none⟩)) := by
  have hag : Agree N ρ (ρ.at h.next w.heap.size 0) := Ren.at_agree ρ hN
  have hst := new_step (D := D) (w' := { w with heap := w.heap.push (.mapIter (m.map ρ.φ) since #[] st) }) (o := .iter m since [] st) hl hwf hN hr w.heap.size 0 (Nat.le_refl _)
    ⟨m.map ρ.φ, by rw [Ren.at_φ]; simp, fun r hr2 => by
      cases m with
      | none => rfl
      | some k =>
        have hk := hm k rfl
        simp only [Option.map_some]
        rw [hr2.φ k (.inl hk), hag.φ k hk]⟩ rfl rfl rfl (by simp) (fun i hi => by
      show (w.heap.push _)[i]? = _
      rw [Array.getElem?_push, if_neg (by omega)])
  refine ⟨_, _, rfl, hst.1, hst.2, fun r hr2 => ?_⟩
  simp only [ren, renA]
  rw [hr2.φ h.next (.inr ⟨Nat.le_refl _, Nat.lt_succ_self _⟩), Ren.at_φ]
theorem aRange_sound {P : Program} {N : Nat → Prop} {ρ : Ren} {t : TypeId} {x x' : Value} (hx : VR N ρ x x') : Sim P N ρ (aRange P t x) (Instr.range t x') VRel := by
  intro h v h' he D w hcov hwf hN hr
  unfold aRange at he
  split at he
  case h_3 => cases he
  case h_1 kt et hu =>
    have hx' : x' = .map none := by rw [← hx.eq]; simp [ren]
    subst hx'
    obtain ⟨n, h1, e1, e2⟩ := AM.bind_some he
    obtain ⟨rfl, hl, rfl⟩ := AM.new_some e1
    obtain ⟨rfl, rfl⟩ := AM.pure_some e2
    obtain ⟨ρ', w', q1, q2, q3, q4⟩ := newIter_step (P := P) none 0 0 hl hwf (hN h.next ⟨Nat.le_refl _, Nat.lt_succ_self _⟩) (fun r e => by cases e) hr
    refine ⟨ρ', _, w', ?_, q2, q3, q4⟩
    unfold Instr.range
    simp only [Sem.run_bind, run_underlying hu w, Result.andThen_ok, Sem.run_pure]
    simp only [Option.map_none] at q1
    simp only [q1, Result.andThen_ok]
  case h_2 kt et r hu =>
    have hx' : x' = .map (some (ρ.φ r)) := by rw [← hx.eq]; simp [ren]
    subst hx'
    obtain ⟨ob, h1, e1, e2⟩ := AM.bind_some he
    have m1 := (AM.look r).mono _ _ _ e1
    have m2 := AM.mono _ _ _ _ e2
    cases ob with
    | row => cases e2
    | iter => cases e2
    | map es cl =>
      dsimp only at e2
      obtain ⟨n, h2, e3, e4⟩ := AM.bind_some e2
      obtain ⟨rfl, hl, rfl⟩ := AM.new_some e3
      obtain ⟨rfl, rfl⟩ := AM.pure_some e4
      have cov1 : Cov D h1 := hcov.of m2
      obtain ⟨es', p1, p2, p3, p4, p5, p6, p7, p8⟩ := look_map e1 cov1 hr
      have hnr : N r := hr.known r p7 (by rw [p8]; rfl)
      have hobj : (getObj (ρ.φ r)).run P w = .ok (.map es' cl) w := by simp [getObj, Sem.run, p1]
      have hNn : ¬ N h1.next := by rw [p4]; exact hN h.next ⟨Nat.le_refl _, by show h.next < h1.next + 1; omega⟩
      obtain ⟨ρ', w', q1, q2, q3, q4⟩ := newIter_step (P := P) (some r) cl cl hl (m1.wf hwf) hNn (fun k e => by injection e with e; subst e; exact hnr) p6
      refine ⟨ρ', .pointer (some ⟨w.heap.size, 0, none⟩), w', ?_, p5.trans q2 m1 m2, ?_, ?_⟩
      · unfold Instr.range
        simp only [Sem.run_bind, run_underlying hu w, Result.andThen_ok, Sem.run_pure, hobj]
        simp only [Option.map_some] at q1
        simp only [q1, Result.andThen_ok]
      · rw [← p4]; exact q3
      · rw [← p4]; exact q4

def olds (es : List MapEntry) (since : Nat) (seen : List Nat) : List MapEntry := (es.filter fun e => !seen.contains e.born).filter fun e => decide (e.born < since)
def news (es : List MapEntry) (since : Nat) (seen : List Nat) : List MapEntry := (es.filter fun e => !seen.contains e.born).filter fun e => decide (e.born ≥ since)
def candHd (es : List MapEntry) (since : Nat) (seen : List Nat) : List (Option MapEntry) := if (olds es since seen).isEmpty then [none] else []
def cands (es : List MapEntry) (since : Nat) (seen : List Nat) : List (Option MapEntry) := candHd es since seen ++ (olds es since seen ++ news es since seen).map some
/-- the next entry: candidate c of at most k -/
def aNext (c k : Nat) (it : Value) : AM Value :=
  match it with
  | .pointer (some ⟨r, 0, none⟩) => (AM.look r).bind fun
    | .iter none _ _ _ => .pure (.tuple #[.bool false])
    | .iter (some m) since seen last => (AM.look m).bind fun
      | .map es cl => if !seen.isEmpty && !es.isEmpty && es.all (fun e => decide (e.born ≥ last)) then .fail else
        if (cands es since seen).length ≤ k then (match (cands es since seen)[min c ((cands es since seen).length - 1)]? with
          | some (some e) => if r < 4611686018427387904 then (AM.put r (some (.iter (some m) since (seen ++ [e.born]) cl))).bind fun _ => .pure (.tuple #[.bool true, e.key, e.val]) else .fail
          | some none => .pure (.tuple #[.bool false])
          | none => .fail)
        else .fail
      | _ => .fail
    | _ => .fail
  | _ => .fail
theorem choose_run {P : Program} {n : Nat} (hn : 1 ≤ n) (w : World) : ∃ i w', i < n ∧ (choose (.mapNext n)).run P w = .ok i w' ∧ w'.heap = w.heap ∧ w'.os = w.os ∧ w'.tape = w.tape ∧ w'.output = w.output := by
  unfold choose
  simp only [Sem.run]
  by_cases h : Question.forced (.mapNext n) = true
  · exact ⟨0, w, hn, by rw [if_pos h], rfl, rfl, rfl, rfl⟩
  · refine ⟨_, { w with drawn := w.drawn + 1 }, ?_, by rw [if_neg h], rfl, rfl, rfl, rfl⟩
    show w.tape w.drawn (.mapNext n) % n < n
    exact Nat.mod_lt _ hn
/-- a step in which a draw was had -/
theorem Rel.heap {D N : Nat → Prop} {ρ : Ren} {h : Nat → Option AObj} {w w' : World} (hr : Rel D N ρ h w) (e : w'.heap = w.heap) : Rel D N ρ h w' :=
  ⟨hr.inj, fun n o hD ho => (hr.holds n o hD ho).mono (Agree.refl _ _) (fun _ h => h) (hr.known n hD (by rw [ho]; rfl)) (by rw [e]), hr.known, hr.sym, hr.glob⟩
theorem Step.heap {D : Nat → Prop} {h h' : AH} {ρ ρ' : Ren} {w w1 w' : World} (hs : Step D h ρ w h' ρ' w1) (e : w'.heap = w1.heap) (e1 : w'.os = w1.os) (e2 : w'.tape = w1.tape) (e3 : w'.output = w1.output) : Step D h ρ w h' ρ' w' :=
  ⟨hs.agree, hs.fresh, e1.trans hs.os, e2.trans hs.tape, e3.trans hs.output, by rw [e]; exact hs.size, fun k hk hn => by rw [e]; exact hs.frame k hk hn⟩
theorem candsA {N : Nat → Prop} {ρ : Ren} {es : List MapEntry} {es' : Array MapEntry} (h : EsR N ρ es es'.toList) (since : Nat) (seen : List Nat) :
    ∃ fs' : List MapEntry, ((let left : Array MapEntry := es'.filter fun e => !seen.toArray.contains e.born
      let old : Array MapEntry := left.filter (·.born < since)
      let new : Array MapEntry := left.filter (·.born ≥ since)
      (if old.isEmpty then #[none] else #[]) ++ (old ++ new).map some) : Array (Option MapEntry)).toList = candHd es since seen ++ fs'.map some ∧
      EsR N ρ (olds es since seen ++ news es since seen) fs' := by
  have hl := h.filter (fun b => !seen.contains b)
  have ho := hl.filter (fun b => decide (b < since))
  have hn := hl.filter (fun b => decide (b ≥ since))
  refine ⟨_, ?_, ho.app hn⟩
  have hemp := ho.emptyB
  have e1 : (Array.filter (fun e => decide (e.born < since)) (Array.filter (fun e => !seen.toArray.contains e.born) es')).isEmpty = (olds es since seen).isEmpty := by
    unfold olds
    rw [← hemp, ← Array.isEmpty_toList]
    simp
  unfold candHd
  simp only [e1]
  split <;> simp
theorem candsAt {N : Nat → Prop} {ρ : Ren} {es : List MapEntry} {fs' : List MapEntry} {since : Nat} {seen : List Nat} (hc : EsR N ρ (olds es since seen ++ news es since seen) fs') :
    (candHd es since seen ++ fs'.map some).length = (cands es since seen).length ∧ ∀ i, i < (cands es since seen).length → ∃ o o', (cands es since seen)[i]? = some o ∧ (candHd es since seen ++ fs'.map some)[i]? = some o' ∧
      (match o, o' with
       | none, none => True
       | some e, some e' => ER N ρ e e'
       | _, _ => False) := by
  unfold cands
  refine ⟨by simp [hc.len], fun i hi => ?_⟩
  by_cases h : i < (candHd es since seen).length
  · rw [List.getElem?_append_left h, List.getElem?_append_left h]
    unfold candHd at h ⊢
    split at h
    · rename_i he
      rw [if_pos he]
      obtain rfl : i = 0 := by simp at h; omega
      exact ⟨none, none, rfl, rfl, trivial⟩
    · simp at h
  · rw [List.getElem?_append_right (by omega), List.getElem?_append_right (by omega)]
    have hj : i - (candHd es since seen).length < (olds es since seen ++ news es since seen).length := by
      simp only [List.length_append, List.length_map] at hi ⊢; omega
    obtain ⟨e', q1, q2⟩ := hc.at_ _ _ (List.getElem?_eq_getElem hj)
    exact ⟨_, _, by rw [List.getElem?_map, List.getElem?_eq_getElem hj]; rfl, by rw [List.getElem?_map, q1]; rfl, q2⟩
def nextTail (r m since : Nat) (seen : Array Nat) (cl : Nat) : Option MapEntry → Sem Value
  | some e' => do
    setObj r (.mapIter (some m) since (seen.push e'.born) cl)
    pure (.tuple #[.bool true, e'.key, e'.val])
  | none => pure (.tuple #[.bool false])
theorem aNext_run {P : Program} {N : Nat → Prop} {ρ : Ren} {ty : TypeId} {it it' : Value} (hv : VR N ρ it it') {k : Nat} (hk : 1 ≤ k) {h : AH} {xs : Nat → Value} {hs : Nat → AH} (hall : ∀ c, c < k → (aNext c k it).run h = some (xs c, hs c))
    {D : Nat → Prop} {w : World} (hcov : ∀ c, c < k → Cov D (hs c)) (hwf : WF h) (hr : Rel D N ρ h.get w) :
    ∃ c, c < k ∧ ∃ y w', (Instr.next it' false ty).run P w = .ok y w' ∧ Step D h ρ w (hs c) ρ w' ∧ Rel D N ρ (hs c).get w' ∧ VR N ρ (xs c) y ∧ (hs c).next = h.next := by
  have h0 := hall 0 hk
  unfold aNext at h0
  split at h0
  case h_2 => cases h0
  case h_1 r =>
    have hit' : it' = .pointer (some ⟨ρ.φ r, 0, none⟩) := by rw [← hv.eq]; simp [ren, renA]
    subst hit'
    obtain ⟨ob, h1, e1, e2⟩ := AM.bind_some h0
    have m2 := AM.mono _ _ _ _ e2
    have cov1 : Cov D h1 := (hcov 0 hk).of m2
    have e1' := e1
    obtain ⟨g1, rfl⟩ := AM.look_some e1
    have hls := look_step (n := r) hr
    rw [Grow.eq_self] at hls
    cases ob with
    | row => cases e2
    | map => cases e2
    | iter m since seen last =>
      obtain ⟨m', i1, i2⟩ := hr.holds r _ cov1.look g1
      have hobj : (getObj (ρ.φ r)).run P w = .ok (.mapIter m' since seen.toArray last) w := by simp [getObj, Sem.run, i1]
      have hm' : m.map ρ.φ = m' := i2 ρ (Agree.refl _ _)
      cases m with
      | none =>
        obtain ⟨e3, e4⟩ := AM.pure_some e2
        simp only [Option.map_none] at hm'
        subst hm'
        refine ⟨0, hk, .tuple #[.bool false], w, ?_, by rw [e4]; exact hls.1, by rw [e4]; exact hls.2, by rw [e3]; exact VR.shut rfl, by rw [e4]⟩
        unfold Instr.next
        simp only [Sem.run_bind, hobj, Result.andThen_ok, Sem.run_pure]
      | some m =>
        simp only [Option.map_some] at hm'
        subst hm'
        dsimp only at e2
        obtain ⟨ob2, h2, e3, e4⟩ := AM.bind_some e2
        have m1 := (AM.look r).mono _ _ _ e1'
        have m3 := (AM.look m).mono _ _ _ e3
        have m4 := AM.mono _ _ _ _ e4
        have cov2 : Cov D h2 := (hcov 0 hk).of m4
        cases ob2 with
        | row => cases e4
        | iter => cases e4
        | map es cl =>
          obtain ⟨es', p1, p2, p3, p4, p5, p6, p7, p8⟩ := look_map e3 cov2 hls.2
          have hobj2 : (getObj (ρ.φ m)).run P w = .ok (.map es' cl) w := by simp [getObj, Sem.run, p1]
          have hst2 := hls.1.trans p5 m1 m3
          have hwf2 := m3.wf (m1.wf hwf)
          have hD2 : D r := cov1.look
          have hr2 : (h2.get r) = some (.iter (some m) since seen last) := by
            have : h2.get = h.get := by funext q; show h2.m.get q = h.m.get q; rw [p3]
            rw [this]; exact g1
          dsimp only at e4
          split at e4
          case isTrue => cases e4
          case isFalse hno =>
            split at e4
            case isFalse => cases e4
            case isTrue hlen =>
              -- every candidate
              have hallc : ∀ c, c < k → ∀ o, (cands es since seen)[min c ((cands es since seen).length - 1)]? = some o →
                  (match o with
                   | some e => if r < 4611686018427387904 then (AM.put r (some (.iter (some m) since (seen ++ [e.born]) cl))).bind fun _ => AM.pure (Value.tuple #[.bool true, e.key, e.val]) else .fail
                   | none => AM.pure (Value.tuple #[.bool false])).run h2 = some (xs c, hs c) := fun c hc o ho => by
                have := hall c hc
                simp only [aNext] at this
                obtain ⟨ob3, h3, f1, f2⟩ := AM.bind_some this
                obtain ⟨f3, rfl⟩ := AM.look_some f1
                rw [g1] at f3; injection f3 with f3; subst f3
                dsimp only at f2
                obtain ⟨ob4, h4, f4, f5⟩ := AM.bind_some f2
                rw [e3] at f4
                injection f4 with f4; injection f4 with f4 f6; subst f4; subst f6
                dsimp only at f5
                rw [if_neg hno, if_pos hlen, ho] at f5
                cases o <;> exact f5
              obtain ⟨fs', hc1, hc2⟩ := candsA p2 since seen
              have hpos : 1 ≤ (cands es since seen).length := by
                rcases Nat.eq_zero_or_pos (cands es since seen).length with h0 | h0
                · exfalso
                  have : (cands es since seen) = [] := List.eq_nil_of_length_eq_zero h0
                  rw [this] at e4
                  simp at e4
                  cases e4
                · exact h0
              obtain ⟨hclen, hsame⟩ := candsAt hc2
              obtain ⟨i, w1, hi, hrun, hw1, hw2, hw3, hw4⟩ := choose_run (P := P) hpos w
              obtain ⟨o, o', q1, q2, q3⟩ := hsame i hi
              have hmin : min i ((cands es since seen).length - 1) = i := by omega
              have hres := hallc i (by omega) o (by rw [hmin]; exact q1)
              have hcond : (!seen.toArray.isEmpty && !es'.isEmpty && es'.all fun e => decide (e.born ≥ last)) = false := by
                have a1 := p2.emptyB
                have a2 := p2.allB (fun b => decide (b ≥ last))
                rw [Array.isEmpty_toList] at a1
                have a3 : (!seen.isEmpty && !es.isEmpty && es.all fun e => decide (e.born ≥ last)) = false := by simpa using hno
                rw [← a3, ← a2, a1]
                simp
              have hsz : ∀ (A : Array (Option MapEntry)), A.toList = candHd es since seen ++ fs'.map some → A.size = (cands es since seen).length ∧ A[i]? = some o' := fun A hA => by
                refine ⟨by rw [← Array.length_toList, hA, hclen], ?_⟩
                rw [← Array.getElem?_toList, hA]; exact q2
              obtain ⟨s1, s2⟩ := hsz _ hc1
              dsimp only at s1 s2
              have hgo : (Instr.next (.pointer (some ⟨ρ.φ r, 0, none⟩)) false ty).run P w = (nextTail (ρ.φ r) (ρ.φ m) since seen.toArray cl o').run P w1 := by
                unfold Instr.next
                simp only [Sem.run_bind, hobj, Result.andThen_ok, Sem.run_pure, hobj2, hcond, Bool.false_eq_true, if_false]
                rw [s1, hrun]
                simp only [Result.andThen_ok, s2]
                cases o' <;> rfl
              refine ⟨i, by omega, ?_⟩
              cases o with
              | none =>
                cases o' with
                | some _ => exact q3.elim
                | none =>
                  obtain ⟨e5, e6⟩ := AM.pure_some hres
                  refine ⟨_, w1, (by rw [hgo]; rfl), ?_, ?_, by rw [e5]; exact VR.shut rfl, by rw [e6]; exact p4⟩
                  · rw [e6]; exact hst2.heap hw1 hw2 hw3 hw4
                  · rw [e6]; exact p6.heap hw1
              | some e =>
                cases o' with
                | none => exact q3.elim
                | some e' =>
                  dsimp only at hres
                  split at hres
                  case isFalse => cases hres
                  case isTrue hlt =>
                    obtain ⟨u, h5, f1, f2⟩ := AM.bind_some hres
                    have m5 := (AM.put r _).mono _ _ _ f1
                    obtain ⟨f3, f4⟩ := AM.pure_some f2
                    obtain ⟨_, rfl⟩ := AM.put_some f1
                    have hrn : r < h2.next := by
                      rcases Nat.lt_or_ge r h2.next with hh | hh
                      · exact hh
                      · rw [hwf2 r hh] at hr2; cases hr2
                    have hb1 : w1.heap[ρ.φ r]? = some (.mapIter (some (ρ.φ m)) since seen.toArray last) := by rw [hw1]; exact i1
                    have hszr : ρ.φ r < w1.heap.size := (Array.getElem?_eq_some_iff.1 hb1).1
                    have hrel1 := p6.heap hw1
                    have hput := put_step (D := D) (w' := { w1 with heap := w1.heap.setIfInBounds (ρ.φ r) (.mapIter (some (ρ.φ m)) since (seen.toArray.push e'.born) cl) }) (o := .iter (some m) since (seen ++ [e.born]) cl) hlt hD2 (by rw [hr2]; rfl) hrn hrel1
                      ⟨some (ρ.φ m), by simp [hszr, q3.born], i2⟩ rfl rfl rfl (by simp) (fun j _ hne => by simp [Array.getElem?_setIfInBounds_ne (Ne.symm hne)])
                    refine ⟨.tuple #[.bool true, e'.key, e'.val], { w1 with heap := w1.heap.setIfInBounds (ρ.φ r) (.mapIter (some (ρ.φ m)) since (seen.toArray.push e'.born) cl) }, ?_, ?_, ?_, ?_, ?_⟩
                    · rw [hgo]
                      simp [nextTail, setObj, Sem.run, hb1]
                    · rw [f4]
                      exact (hst2.heap hw1 hw2 hw3 hw4).trans hput.1 (m1.trans m3) m5
                    · rw [f4]; exact hput.2
                    · rw [f3]
                      intro r2 hr3
                      simp [ren, q3.key r2 hr3, q3.val r2 hr3]
                    · rw [f4]; exact p4
def aEntryOf (it : Value) : AM Value :=
  match it with
  | .pointer (some ⟨r, 0, none⟩) => (AM.look r).bind fun
    | .iter (some m) _ seen st => (match seen.reverse with
      | b :: _ => (AM.look m).bind fun
        | .map es cl => if cl = st then (match es.find? fun e => e.born == b with
          | some e => .pure (.tuple #[e.key, e.val])
          | none => .fail) else .fail
        | _ => .fail
      | [] => .fail)
    | _ => .fail
  | _ => .fail
theorem EsR.findB {N : Nat → Prop} {ρ : Ren} (b : Nat) : ∀ {es es' : List MapEntry} {e : MapEntry}, EsR N ρ es es' → es.find? (fun e => e.born == b) = some e → ∃ e', es'.find? (fun e => e.born == b) = some e' ∧ ER N ρ e e'
  | [], [], _, _, h => by cases h
  | [], _ :: _, _, h, _ => by have := h.len; simp at this
  | _ :: _, [], _, h, _ => by have := h.len; simp at this
  | x :: r, x' :: r', e, h, hf => by
    obtain ⟨h1, h2⟩ := h.tail
    simp only [List.find?_cons, h1.born] at hf ⊢
    split at hf
    · injection hf with hf; subst hf; exact ⟨x', rfl, h1⟩
    · exact h2.findB b hf
theorem aEntryOf_sound {P : Program} {N : Nat → Prop} {ρ : Ren} {it it' : Value} (hv : VR N ρ it it') : Sim P N ρ (aEntryOf it) (Instr.entry it') VRel := by
  intro h v h' he D w hcov hwf hN hr
  unfold aEntryOf at he
  split at he
  case h_2 => cases he
  case h_1 r =>
    have hit' : it' = .pointer (some ⟨ρ.φ r, 0, none⟩) := by rw [← hv.eq]; simp [ren, renA]
    subst hit'
    obtain ⟨ob, h1, e1, e2⟩ := AM.bind_some he
    have m1 := (AM.look r).mono _ _ _ e1
    have m2 := AM.mono _ _ _ _ e2
    have cov1 : Cov D h1 := hcov.of m2
    obtain ⟨g1, rfl⟩ := AM.look_some e1
    have hls := look_step (n := r) hr
    rw [Grow.eq_self] at hls
    split at e2
    case h_2 => cases e2
    case h_1 m since seen st =>
      split at e2
      case h_2 => cases e2
      case h_1 b rest hrev =>
        obtain ⟨ob2, h2, e3, e4⟩ := AM.bind_some e2
        have m3 := (AM.look m).mono _ _ _ e3
        have m4 := AM.mono _ _ _ _ e4
        have cov2 : Cov D h2 := hcov.of m4
        cases ob2 with
        | row => cases e4
        | iter => cases e4
        | map es cl =>
          obtain ⟨es', p1, p2, p3, p4, p5, p6, p7, p8⟩ := look_map e3 cov2 hls.2
          obtain ⟨m', i1, i2⟩ := hr.holds r _ cov1.look g1
          have hm' : some (ρ.φ m) = m' := i2 ρ (Agree.refl _ _)
          subst hm'
          have hobj : (getObj (ρ.φ r)).run P w = .ok (.mapIter (some (ρ.φ m)) since seen.toArray st) w := by simp [getObj, Sem.run, i1]
          have hobj2 : (getObj (ρ.φ m)).run P w = .ok (.map es' cl) w := by simp [getObj, Sem.run, p1]
          dsimp only at e4
          split at e4
          case isFalse => cases e4
          case isTrue hcl =>
            split at e4
            case h_2 => cases e4
            case h_1 e hfe =>
              obtain ⟨rfl, rfl⟩ := AM.pure_some e4
              obtain ⟨e', q1, q2⟩ := p2.findB b hfe
              have hG : Grow N h.next h'.next = N := by rw [p4]; exact Grow.eq_self _ _
              have hback : seen.toArray.back? = some b := by
                have : seen = rest.reverse ++ [b] := by
                  have := congrArg List.reverse hrev
                  simpa using this
                rw [this]; simp
              refine ⟨ρ, .tuple #[e'.key, e'.val], w, ?_, hls.1.trans p5 m1 m3, by rw [hG]; exact p6, ?_⟩
              · unfold Instr.entry
                have hf : es'.find? (fun e => e.born == b) = some e' := by rw [← Array.find?_toList]; exact q1
                simp only [Sem.run_bind, hobj, Result.andThen_ok, hback, Sem.run_pure, hobj2, hcl, bne_self_eq_false, Bool.false_eq_true, if_false, hf]
              · rw [hG]
                intro r2 hr2
                simp [ren, q2.key r2 hr2, q2.val r2 hr2]
end Go.Proofs.Ytljhlnpbomehkaa
