/- An evaluator of Go code whose memory has names of its own (26): made ready for the kernel: code, calls, and that it says what the other says. -/
import Derived.Test.YtljhlnpbomehkaaEwZa
namespace Go.Proofs.Ytljhlnpbomehkaa
set_option linter.unusedVariables false
set_option linter.unusedSimpArgs false

inductive FC
  | skip
  | reg (fos : List FO) (pairs : List (Nat × Nat))
  | seqr (fos : List FO)
  | seq (a b : FC)
  | cond (c : FOpd) (a b : FC)
  | block (id : Nat) (b : FC)
  | loop (b : FC)
  | scope (b : FC)
  | exit (id : Nat)
  | ret
  | bad
def cReg (P : Program) (n : Nat) (ops : Array Oper) (draw : Bool) : FC :=
  match cOs P n ops ops.toList with
  | some fos => (match draw with
    | true => if regOK ops fos (pairsOf ops fos) then .reg fos (pairsOf ops fos) else .bad
    | false => .seqr fos)
  | none => .bad
def cCode (P : Program) (n : Nat) : Code → FC
  | .skip => .skip
  | .label _ => .skip
  | .region _ ops draw => cReg P n ops draw
  | .seq a b => .seq (cCode P n a) (cCode P n b)
  | .cond c a b => (match cOpd n c with
    | some c => .cond c (cCode P n a) (cCode P n b)
    | none => .bad)
  | .block id b => .block id (cCode P n b)
  | .loop b => .loop (cCode P n b)
  | .scope b => .scope (cCode P n b)
  | .exit id => .exit id
  | .ret => .ret
  | _ => .bad

def fSeqR (P : Program) (orc : Orc) (call : FuncId → List Value → AH → Option (Value × AH)) (n : Nat) : List FO → Fr → AH → Option (Fr × AH)
  | [], fr, h => some (fr, h)
  | fo :: r, fr, h => match fWant fo.g fr with
    | some false => fSeqR P orc call n r (fPut fo.dst undef fr) h
    | some true => (match fPure P fr fo.k with
      | some v => fSeqR P orc call n r (fPut fo.dst v fr) h
      | none => (match fMem P orc call n fo.o fr h fo.k with
        | some (v, h1) => fSeqR P orc call n r (fPut fo.dst v fr) h1
        | none => none))
    | none => none
theorem fSeqR_ok {P : Program} {orc : Orc} {call : FuncId → List Value → AH → Option (Value × AH)} {acall : FuncId → Array Value → AM Value} (hc : CallF call acall) {n : Nat} {ops : Array Oper} :
    ∀ {r : List Oper} {fos : List FO}, cOs P n ops r = some fos → ∀ {fr fr' : Fr} {ts : Array Value} {h h' : AH}, FrOK n fr ts → fSeqR P orc call n fos fr h = some (fr', h') →
    ∃ ts', (aSeq ops (aOper P orc acall) r ts).run h = some (ts', h') ∧ FrOK n fr' ts'
  | [], fos, hf, fr, fr', ts, h, h', hfr, e => by
    simp only [cOs] at hf; injection hf with hf; subst hf
    simp only [fSeqR, Option.some.injEq, Prod.mk.injEq] at e
    obtain ⟨rfl, rfl⟩ := e
    exact ⟨ts, rfl, hfr⟩
  | o :: r, fos, hf, fr, fr', ts, h, h', hfr, e => by
    simp only [cOs] at hf
    split at hf
    case h_2 => cases hf
    case h_1 fo hfo =>
      split at hf
      case h_2 => cases hf
      case h_1 fl hfl =>
        injection hf with hf; subst hf
        simp only [fSeqR] at e
        unfold cO at hfo
        split at hfo
        case h_2 => cases hfo
        case h_1 d g hd hg =>
          injection hfo with hfo; subst hfo
          dsimp only at e
          rw [fWant_ok hfr hg] at e
          simp only [aSeq]
          split at e
          · rename_i hw
            rw [hw]
            exact fSeqR_ok hc hfl (fPut_ok hfr _ hfr hd) e
          · rename_i hw
            rw [hw]
            dsimp only
            split at e
            · rename_i v hv
              obtain ⟨ts', q1, q2⟩ := fSeqR_ok hc hfl (fPut_ok hfr _ hfr hd) e
              refine ⟨ts', ?_, q2⟩
              unfold AM.bind
              dsimp only
              rw [fPure_ok (orc := orc) (call := acall) hfr hv]
              exact q1
            · split at e
              · rename_i v h1 hm
                obtain ⟨ts', q1, q2⟩ := fSeqR_ok hc hfl (fPut_ok hfr _ hfr hd) e
                refine ⟨ts', ?_, q2⟩
                unfold AM.bind
                dsimp only
                rw [fMem_ok hc hfr hm]
                exact q1
              · cases e
          · cases e

def fCode (P : Program) (orc : Orc) (call : FuncId → List Value → AH → Option (Value × AH)) (n : Nat) : Nat → FC → Fr → AH → Option (Way × Fr × AH)
  | 0, _, _, _ => none
  | m + 1, c, fr, h => match c with
    | .skip => some (.normal, fr, h)
    | .reg fos pairs => (match pairs with
      | [] => (match fRegN P orc call n fos fr h with
        | some (fr', h') => some (.normal, fr', h')
        | none => none)
      | _ :: _ => (match fReg P orc call n fos fr h with
        | some (rs, fr', h') => if dynOK rs pairs then some (.normal, fr', h') else none
        | none => none))
    | .seqr fos => (match fSeqR P orc call n fos fr h with
      | some (fr', h') => some (.normal, fr', h')
      | none => none)
    | .seq a b => (match fCode P orc call n m a fr h with
      | some (.normal, fr', h') => fCode P orc call n m b fr' h'
      | x => x)
    | .cond c a b => (match c.get fr with
      | .bool true => fCode P orc call n m a fr h
      | .bool false => fCode P orc call n m b fr h
      | _ => none)
    | .block id b => (match fCode P orc call n m b fr h with
      | some (.exit i, fr', h') => if i = id then some (.normal, fr', h') else some (.exit i, fr', h')
      | x => x)
    | .loop b => (match fCode P orc call n m b fr h with
      | some (.normal, fr', h') => fCode P orc call n m (.loop b) fr' h'
      | x => x)
    | .scope b => fCode P orc call n m b fr h
    | .exit id => some (.exit id, fr, h)
    | .ret => some (.ret, fr, h)
    | .bad => none
theorem cReg_ok {P : Program} {orc : Orc} {call : FuncId → List Value → AH → Option (Value × AH)} {acall : FuncId → Array Value → AM Value} (hc : CallF call acall) {n m : Nat} {ops : Array Oper} {draw : Bool} {fr fr' : Fr} {ts : Array Value} {h h' : AH} {w : Way}
    (hfr : FrOK n fr ts) (e : fCode P orc call n (m + 1) (cReg P n ops draw) fr h = some (w, fr', h')) :
    ∃ ts', ((if draw then aReg ops (aOper P orc acall) ts else aSeq ops (aOper P orc acall) ops.toList ts).bind fun ts' => AM.pure (Way.normal, ts')).run h = some ((w, ts'), h') ∧ FrOK n fr' ts' := by
  unfold cReg at e
  cases hfos : cOs P n ops ops.toList with
  | none => rw [hfos] at e; simp only [fCode] at e; cases e
  | some fos =>
    rw [hfos] at e
    dsimp only at e
    cases draw with
    | false =>
      simp only [fCode] at e
      split at e
      · rename_i fr1 h1 h2
        simp only [Option.some.injEq, Prod.mk.injEq] at e
        obtain ⟨rfl, rfl, rfl⟩ := e
        obtain ⟨ts', q1, q2⟩ := fSeqR_ok hc hfos hfr h2
        refine ⟨ts', ?_, q2⟩
        simp only [Bool.false_eq_true, if_false]
        unfold AM.bind
        dsimp only
        rw [q1]; rfl
      · cases e
    | true =>
      dsimp only at e
      split at e
      case isFalse => simp only [fCode] at e; cases e
      case isTrue hok =>
        have key : ∀ rs fr1 h1, fReg P orc call n fos fr h = some (rs, fr1, h1) → dynOK rs (pairsOf ops fos) = true → ∃ ts', (aReg ops (aOper P orc acall) ts).run h = some (ts', h1) ∧ FrOK n fr1 ts' := fun rs fr1 h1 h2 h3 => by
          obtain ⟨l, ts', q1, q2, q3, q4⟩ := fReg_ok hc hfos hfr h2
          refine ⟨ts', ?_, q2⟩
          have hk := okReg_of (ts' := ts') hok h3 (by rw [q3]; simp) q4
          unfold aReg
          dsimp only
          rw [q1]
          dsimp only
          rw [if_pos hk]
        simp only [fCode] at e
        have fin : ∀ fr1 h1, (∃ ts', (aReg ops (aOper P orc acall) ts).run h = some (ts', h1) ∧ FrOK n fr1 ts') → some (Way.normal, fr1, h1) = some (w, fr', h') →
            ∃ ts', ((if true = true then aReg ops (aOper P orc acall) ts else aSeq ops (aOper P orc acall) ops.toList ts).bind fun ts' => AM.pure (Way.normal, ts')).run h = some ((w, ts'), h') ∧ FrOK n fr' ts' := fun fr1 h1 hh e => by
          simp only [Option.some.injEq, Prod.mk.injEq] at e
          obtain ⟨rfl, rfl, rfl⟩ := e
          obtain ⟨ts', q1, q2⟩ := hh
          refine ⟨ts', ?_, q2⟩
          rw [if_pos rfl]
          unfold AM.bind
          dsimp only
          rw [q1]; rfl
        split at e
        · rename_i hp
          split at e
          · rename_i fr1 h1 h2
            obtain ⟨rs, h3⟩ := fRegN_ok h2
            exact fin fr1 h1 (key rs fr1 h1 h3 (by rw [hp]; rfl)) e
          · cases e
        · rename_i x y hp
          split at e
          · rename_i rs fr1 h1 h2
            split at e
            · rename_i h3
              exact fin fr1 h1 (key rs fr1 h1 h2 h3) e
            · cases e
          · cases e
theorem fCode_ok {P : Program} {orc : Orc} {call : FuncId → List Value → AH → Option (Value × AH)} {acall : FuncId → Array Value → AM Value} (hc : CallF call acall) {n : Nat} : ∀ (m : Nat) (c : Code) (fr fr' : Fr) (ts : Array Value) (h h' : AH) (w : Way), FrOK n fr ts →
    fCode P orc call n m (cCode P n c) fr h = some (w, fr', h') → ∃ ts', (aCode (aOper P orc acall) m c ts).run h = some ((w, ts'), h') ∧ FrOK n fr' ts' := by
  intro m
  induction m with
  | zero => intro c fr fr' ts h h' w _ e; simp only [fCode] at e; cases e
  | succ m ih =>
    intro c fr fr' ts h h' w hfr e
    have bad : fCode P orc call n (m + 1) .bad fr h = some (w, fr', h') → False := fun e => by simp only [fCode] at e; cases e
    cases c with
    | skip =>
      simp only [cCode, fCode, Option.some.injEq, Prod.mk.injEq] at e
      obtain ⟨rfl, rfl, rfl⟩ := e
      exact ⟨ts, rfl, hfr⟩
    | label l =>
      simp only [cCode, fCode, Option.some.injEq, Prod.mk.injEq] at e
      obtain ⟨rfl, rfl, rfl⟩ := e
      exact ⟨ts, rfl, hfr⟩
    | region id ops draw =>
      simp only [cCode] at e
      obtain ⟨ts', q1, q2⟩ := cReg_ok hc hfr e
      exact ⟨ts', by simpa only [aCode] using q1, q2⟩
    | seq a b =>
      simp only [cCode, fCode] at e
      simp only [aCode]
      unfold AM.bind
      dsimp only
      cases ha : fCode P orc call n m (cCode P n a) fr h with
      | none => rw [ha] at e; cases e
      | some p =>
        obtain ⟨w1, fr1, h1⟩ := p
        obtain ⟨ts1, q1, q2⟩ := ih a fr fr1 ts h h1 w1 hfr ha
        rw [ha] at e
        rw [q1]
        cases w1 with
        | normal =>
          dsimp only at e ⊢
          exact ih b fr1 fr' ts1 h1 h' w q2 e
        | exit i =>
          simp only [Option.some.injEq, Prod.mk.injEq] at e
          obtain ⟨rfl, rfl, rfl⟩ := e
          exact ⟨ts1, rfl, q2⟩
        | ret =>
          simp only [Option.some.injEq, Prod.mk.injEq] at e
          obtain ⟨rfl, rfl, rfl⟩ := e
          exact ⟨ts1, rfl, q2⟩
    | cond c a b =>
      simp only [cCode] at e
      cases hcp : cOpd n c with
      | none => rw [hcp] at e; exact (bad e).elim
      | some y =>
        rw [hcp] at e
        obtain ⟨h1, h2⟩ := cOpd_ok hfr hcp
        simp only [fCode] at e
        simp only [aCode]
        rw [if_pos h2, ← h1]
        split at e
        · rename_i hb; rw [hb]; exact ih a fr fr' ts h h' w hfr e
        · rename_i hb; rw [hb]; exact ih b fr fr' ts h h' w hfr e
        · cases e
    | block id b =>
      simp only [cCode, fCode] at e
      simp only [aCode]
      unfold AM.bind
      dsimp only
      cases ha : fCode P orc call n m (cCode P n b) fr h with
      | none => rw [ha] at e; cases e
      | some p =>
        obtain ⟨w1, fr1, h1⟩ := p
        obtain ⟨ts1, q1, q2⟩ := ih b fr fr1 ts h h1 w1 hfr ha
        rw [ha] at e
        rw [q1]
        cases w1 with
        | exit i =>
          dsimp only at e ⊢
          split at e
          · rename_i hi
            simp only [Option.some.injEq, Prod.mk.injEq] at e
            obtain ⟨rfl, rfl, rfl⟩ := e
            rw [if_pos hi]
            exact ⟨ts1, rfl, q2⟩
          · rename_i hi
            simp only [Option.some.injEq, Prod.mk.injEq] at e
            obtain ⟨rfl, rfl, rfl⟩ := e
            rw [if_neg hi]
            exact ⟨ts1, rfl, q2⟩
        | normal =>
          simp only [Option.some.injEq, Prod.mk.injEq] at e
          obtain ⟨rfl, rfl, rfl⟩ := e
          exact ⟨ts1, rfl, q2⟩
        | ret =>
          simp only [Option.some.injEq, Prod.mk.injEq] at e
          obtain ⟨rfl, rfl, rfl⟩ := e
          exact ⟨ts1, rfl, q2⟩
    | loop b =>
      simp only [cCode, fCode] at e
      simp only [aCode]
      unfold AM.bind
      dsimp only
      cases ha : fCode P orc call n m (cCode P n b) fr h with
      | none => rw [ha] at e; cases e
      | some p =>
        obtain ⟨w1, fr1, h1⟩ := p
        obtain ⟨ts1, q1, q2⟩ := ih b fr fr1 ts h h1 w1 hfr ha
        rw [ha] at e
        rw [q1]
        cases w1 with
        | normal =>
          dsimp only at e ⊢
          exact ih (.loop b) fr1 fr' ts1 h1 h' w q2 e
        | exit i =>
          simp only [Option.some.injEq, Prod.mk.injEq] at e
          obtain ⟨rfl, rfl, rfl⟩ := e
          exact ⟨ts1, rfl, q2⟩
        | ret =>
          simp only [Option.some.injEq, Prod.mk.injEq] at e
          obtain ⟨rfl, rfl, rfl⟩ := e
          exact ⟨ts1, rfl, q2⟩
    | scope b =>
      simp only [cCode, fCode] at e
      simp only [aCode]
      exact ih b fr fr' ts h h' w hfr e
    | exit id =>
      simp only [cCode, fCode, Option.some.injEq, Prod.mk.injEq] at e
      obtain ⟨rfl, rfl, rfl⟩ := e
      exact ⟨ts, rfl, hfr⟩
    | ret =>
      simp only [cCode, fCode, Option.some.injEq, Prod.mk.injEq] at e
      obtain ⟨rfl, rfl, rfl⟩ := e
      exact ⟨ts, rfl, hfr⟩
    | _ => exact (bad (by simpa only [cCode] using e)).elim

def frInit : Nat → List Value → Fr → Fr
  | i, v :: vs, fr => frInit (i + 1) vs (fr.set (pth i) v)
  | _, [], fr => fr
theorem frInit_get : ∀ (vs : List Value) (i : Nat) (fr : Fr), i + vs.length ≤ frTop → ∀ t, t < frTop → (frInit i vs fr).get (pth t) = if i ≤ t ∧ t < i + vs.length then vs.getD (t - i) undef else fr.get (pth t)
  | [], i, fr, h, t, ht => by
    rw [if_neg (by simp)]
    rfl
  | v :: vs, i, fr, h, t, ht => by
    simp only [List.length_cons] at h ⊢
    rw [frInit, frInit_get vs (i + 1) _ (by omega) t ht]
    by_cases e : t = i
    · subst e
      rw [if_neg (by omega), if_pos (by omega), Fr.get_set_same]; simp
    · rw [Fr.get_set_other _ _ _ _ (fun e2 => e (pth_inj ht (by omega) e2))]
      by_cases h2 : i + 1 ≤ t ∧ t < i + 1 + vs.length
      · rw [if_pos h2, if_pos (by omega)]
        have : t - i = (t - (i + 1)) + 1 := by omega
        rw [this]; simp
      · rw [if_neg h2, if_neg (by omega)]
theorem frInit_ok {n : Nat} {args : List Value} (hn : n ≤ frTop) (ha : args.length ≤ n) : FrOK n (frInit 0 args .lf) (args.toArray ++ Array.replicate (n - args.toArray.size) undef) := by
  refine ⟨by simp; omega, hn, fun t ht => ?_⟩
  rw [frInit_get args 0 .lf (by omega) t (by omega), Fr.get_lf]
  rw [Array.getD_eq_getD_getElem?, ← Array.getElem?_toList]
  simp only [Array.toList_append, Array.toList_replicate, Nat.zero_le, true_and, Nat.zero_add, Nat.sub_zero]
  by_cases h : t < args.length
  · rw [if_pos h, List.getElem?_append_left h]; simp [List.getD]
  · rw [if_neg h, List.getElem?_append_right (by omega), List.getElem?_replicate]
    split <;> rfl

inductive FRes
  | tmp (p : List Bool)
  | cell (p : List Bool) (t : TypeId)
def cRes (n : Nat) : List ResultVar → Option (List FRes)
  | [] => some []
  | .tmp t :: r => if t < n then (match cRes n r with
    | some l => some (.tmp (pth t) :: l)
    | none => none) else none
  | .cell a t :: r => if a < n then (match cRes n r with
    | some l => some (.cell (pth a) t :: l)
    | none => none) else none
def fResL (P : Program) (fr : Fr) : List FRes → AH → Option (List Value × AH)
  | [], h => some ([], h)
  | .tmp p :: r, h => (match fResL P fr r h with
    | some (l, h') => some (fr.get p :: l, h')
    | none => none)
  | .cell p t :: r, h => (match (aLoad P t (fr.get p)).run h with
    | some (v, h1) => (match fResL P fr r h1 with
      | some (l, h') => some (v :: l, h')
      | none => none)
    | none => none)
theorem fResL_ok {P : Program} {n : Nat} {fr : Fr} {ts : Array Value} (hfr : FrOK n fr ts) : ∀ {rs : List ResultVar} {fs : List FRes}, cRes n rs = some fs → ∀ {h : AH} {r : List Value × AH}, fResL P fr fs h = some r → (aResL P ts rs).run h = some r
  | [], fs, e, h, r, e2 => by
    simp only [cRes] at e; injection e with e; subst e
    simp only [fResL] at e2
    exact e2
  | .tmp t :: rs, fs, e, h, r, e2 => by
    simp only [cRes] at e
    split at e
    · rename_i ht
      split at e
      · rename_i l hl
        injection e with e; subst e
        simp only [fResL] at e2
        split at e2
        · rename_i l2 h2 hl2
          injection e2 with e2; subst e2
          have := fResL_ok hfr hl hl2
          simp only [aResL]
          unfold AM.bind
          dsimp only
          rw [this, hfr.get t ht]; rfl
        · cases e2
      · cases e
    · cases e
  | .cell a t :: rs, fs, e, h, r, e2 => by
    simp only [cRes] at e
    split at e
    · rename_i ht
      split at e
      · rename_i l hl
        injection e with e; subst e
        simp only [fResL] at e2
        rw [hfr.get a ht] at e2
        split at e2
        · rename_i v h1 hv
          split at e2
          · rename_i l2 h2 hl2
            injection e2 with e2; subst e2
            have := fResL_ok hfr hl hl2
            simp only [aResL]
            unfold AM.bind
            dsimp only
            rw [hv]
            dsimp only
            rw [this]; rfl
          · cases e2
        · cases e2
      · cases e
    · cases e

structure FF where
  n : Nat
  code : FC
  res : List FRes
def cFn (P : Program) (f : FuncId) : Option FF :=
  match P.funcs[f]? with
  | some fn => (match fn.body with
    | some c => (match cRes fn.ntmps fn.results.toList with
      | some rs => if fn.ntmps ≤ frTop then some ⟨fn.ntmps, cCode P fn.ntmps c, rs⟩ else none
      | none => none)
    | none => none)
  | none => none
def lenLe : List Value → Nat → Bool
  | [], _ => true
  | _ :: _, 0 => false
  | _ :: r, n + 1 => lenLe r n
theorem lenLe_spec : ∀ {l : List Value} {n : Nat}, lenLe l n = true → l.length ≤ n
  | [], _, _ => Nat.zero_le _
  | _ :: _, 0, h => by cases h
  | _ :: r, n + 1, h => by simp only [List.length_cons]; exact Nat.succ_le_succ (lenLe_spec h)
def oneOf : List Value → Value
  | [v] => v
  | l => .tuple l.toArray
def fFn (P : Program) (orc : Orc) (fuel : Nat) (T : FuncId → Option FF) (call : FuncId → List Value → AH → Option (Value × AH)) (f : FuncId) (args : List Value) (h : AH) : Option (Value × AH) :=
  match orc.hook f with
  | some m => (m args.toArray).run h
  | none => match T f with
  | some ff => (match lenLe args ff.n with
    | true => (match fCode P orc call ff.n fuel ff.code (frInit 0 args .lf) h with
      | some (.exit _, _, _) => none
      | some (_, fr, h1) => (match fResL P fr ff.res h1 with
        | some (l, h2) => some (oneOf l, h2)
        | none => none)
      | none => none)
    | false => none)
  | none => none
def TableOK (P : Program) (T : FuncId → Option FF) : Prop := ∀ f ff, T f = some ff → cFn P f = some ff
theorem fFn_ok {P : Program} {orc : Orc} {fuel : Nat} {T : FuncId → Option FF} (hT : TableOK P T) {call : FuncId → List Value → AH → Option (Value × AH)} {acall : FuncId → Array Value → AM Value} (hc : CallF call acall) : CallF (fFn P orc fuel T call) (aFn P orc fuel acall) := by
  intro f args h r e
  unfold fFn at e
  unfold aFn
  cases hhk : orc.hook f with
  | some m => rw [hhk] at e; exact e
  | none =>
  rw [hhk] at e
  dsimp only at e ⊢
  split at e
  case h_2 => cases e
  case h_1 ff hff =>
    have hcf := hT f ff hff
    unfold cFn at hcf
    split at hcf
    case h_2 => cases hcf
    case h_1 fn hfn =>
      split at hcf
      case h_2 => cases hcf
      case h_1 c hb =>
        split at hcf
        case h_2 => cases hcf
        case h_1 rs hrs =>
          split at hcf
          case isFalse => cases hcf
          case isTrue hlim =>
            injection hcf with hcf; subst hcf
            dsimp only at e
            split at e
            case h_2 => cases e
            case h_1 hlen =>
              have hfr := frInit_ok hlim (lenLe_spec hlen)
              rw [hfn]
              dsimp only
              rw [hb]
              dsimp only
              split at e
              · cases e
              · rename_i w fr h1 hw hcode
                obtain ⟨ts', q1, q2⟩ := fCode_ok hc fuel c _ fr _ h h1 w hfr hcode
                unfold AM.bind
                dsimp only
                rw [q1]
                dsimp only
                split at e
                case h_2 => cases e
                case h_1 l h2 hl =>
                  injection e with e; subst e
                  have hr := fResL_ok q2 hrs hl
                  have hres : (aRes P fn ts').run h1 = some (oneOf l, h2) := by
                    unfold aRes AM.bind
                    dsimp only
                    rw [hr]
                    match l with
                    | [] => rfl
                    | [v] => rfl
                    | _ :: _ :: _ => rfl
                  cases w with
                  | normal => exact hres
                  | ret => exact hres
                  | exit i => exact (hw i rfl).elim
              · cases e
def fCall (P : Program) (orc : Orc) (fuel : Nat) (T : FuncId → Option FF) : Nat → FuncId → List Value → AH → Option (Value × AH)
  | 0, _, _, _ => none
  | n + 1, f, args, h => fFn P orc fuel T (fCall P orc fuel T n) f args h
theorem fCall_ok {P : Program} {orc : Orc} {fuel : Nat} {T : FuncId → Option FF} (hT : TableOK P T) : ∀ n, CallF (fCall P orc fuel T n) (aCall P orc fuel n)
  | 0 => fun f args h r e => by cases e
  | n + 1 => fFn_ok hT (fCall_ok hT n)
theorem table_self (P : Program) : TableOK P (cFn P) := fun _ _ h => h
end Go.Proofs.Ytljhlnpbomehkaa
