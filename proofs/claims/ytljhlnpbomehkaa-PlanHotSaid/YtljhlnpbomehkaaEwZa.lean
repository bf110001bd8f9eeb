/- An evaluator of Go code whose memory has names of its own (25): made ready for the kernel: regions, code, calls. -/
import Derived.Test.YtljhlnpbomehkaaEwZ
namespace Go.Proofs.Ytljhlnpbomehkaa
set_option linter.unusedVariables false
set_option linter.unusedSimpArgs false

structure FO where
  k : FK
  o : Oper
  dst : Option (List Bool)
  g : Option (List Bool × Bool)
def cDst (n : Nat) : Option Tmp → Option (Option (List Bool))
  | none => some none
  | some d => if d < n then some (some (pth d)) else none
def cGuard (n : Nat) (ops : Array Oper) : Option (Nat × Bool) → Option (Option (List Bool × Bool))
  | none => some none
  | some (j, want) => match (ops[j]?).bind (·.dst) with
    | some t => if t < n then some (some (pth t, want)) else none
    | none => none
def cO (P : Program) (n : Nat) (ops : Array Oper) (o : Oper) : Option FO :=
  match cDst n o.dst, cGuard n ops o.guard with
  | some d, some g => some ⟨cK P n o, o, d, g⟩
  | _, _ => none
def cOs (P : Program) (n : Nat) (ops : Array Oper) : List Oper → Option (List FO)
  | [] => some []
  | o :: r => match cO P n ops o with
    | some x => (match cOs P n ops r with
      | some l => some (x :: l)
      | none => none)
    | none => none
def fPut (d : Option (List Bool)) (v : Value) (fr : Fr) : Fr :=
  match d with
  | none => fr
  | some p => fr.set p v
theorem fPut_ok {n : Nat} {fr : Fr} {ts : Array Value} (h : FrOK n fr ts) {dst : Option Tmp} {d : Option (List Bool)} (v : Value) : FrOK n fr ts → cDst n dst = some d → FrOK n (fPut d v fr) (match dst with | some d => ts.setIfInBounds d v | none => ts) := by
  intro _ e
  cases dst with
  | none => simp only [cDst] at e; injection e with e; subst e; exact h
  | some t =>
    simp only [cDst] at e
    split at e
    · rename_i ht; injection e with e; subst e; exact h.set ht v
    · cases e
def wantIs : Option Bool → Bool → Bool
  | some true, true => true
  | some false, false => true
  | _, _ => false
theorem wantIs_eq (x : Option Bool) (b : Bool) : wantIs x b = (x == some b) := by
  cases x with
  | none => cases b <;> rfl
  | some c => cases c <;> cases b <;> rfl
def fWant (g : Option (List Bool × Bool)) (fr : Fr) : Option Bool :=
  match g with
  | none => some true
  | some (p, want) => match boolOf (fr.get p) with
    | some x => some (wantIs x want)
    | none => none
theorem fWant_ok {n : Nat} {fr : Fr} {ts : Array Value} (h : FrOK n fr ts) {ops : Array Oper} {o : Oper} {g : Option (List Bool × Bool)} (e : cGuard n ops o.guard = some g) : fWant g fr = aWanted ops o ts := by
  unfold aWanted
  cases hg : o.guard with
  | none => rw [hg] at e; simp only [cGuard] at e; injection e with e; subst e; rfl
  | some jw =>
    obtain ⟨j, want⟩ := jw
    rw [hg] at e
    simp only [cGuard] at e
    dsimp only
    split at e
    · rename_i t ht
      split at e
      · rename_i hlt
        injection e with e; subst e
        rw [ht]
        dsimp only [fWant]
        rw [if_pos (by rw [h.size]; exact hlt), h.get t hlt]
        cases boolOf (ts.getD t undef) with
        | none => rfl
        | some x => simp only [wantIs_eq]
      · cases e
    · cases e

def fOne (P : Program) (orc : Orc) (call : FuncId → List Value → AH → Option (Value × AH)) (n : Nat) (fo : FO) (fr : Fr) (h : AH) : Option (Fr × AH × List Nat × List Nat) :=
  match fWant fo.g fr with
  | some false => some (fPut fo.dst undef fr, h, [], [])
  | some true => (match fPure P fr fo.k with
    | some v => some (fPut fo.dst v fr, h, [], [])
    | none => (match fMem P orc call n fo.o fr { h with base := h.next, tch := [], wrt := [] } fo.k with
      | some (v, h1) => if fo.k.quiet && !((h1.wrt ++ h1.tch).isEmpty && Nat.beq h1.next h.next) then none else
          some (fPut fo.dst v fr, { h1 with base := h.base, tch := noteAll h.base (h1.wrt ++ h1.tch) h.tch, wrt := noteAll h.base h1.wrt h.wrt }, h1.wrt ++ h1.tch, h1.wrt)
      | none => none))
  | none => none
theorem fOne_ok {P : Program} {orc : Orc} {call : FuncId → List Value → AH → Option (Value × AH)} {acall : FuncId → Array Value → AM Value} (hc : CallF call acall) {n : Nat} {ops : Array Oper} {o : Oper} {fo : FO} (ho : cO P n ops o = some fo)
    {fr : Fr} {ts : Array Value} (h : FrOK n fr ts) {a a1 : AH} {fr1 : Fr} {F W : List Nat} (e : fOne P orc call n fo fr a = some (fr1, a1, F, W)) :
    ∃ ts1, one ops (aOper P orc acall) o ts a = some (ts1, a1, F, W) ∧ FrOK n fr1 ts1 ∧ (fo.k.quiet = true → F = [] ∧ W = [] ∧ a1.next = a.next) := by
  unfold cO at ho
  split at ho
  case h_2 => cases ho
  case h_1 d g hd hg =>
    injection ho with ho; subst ho
    unfold fOne at e
    dsimp only at e
    unfold one
    rw [fWant_ok h hg] at e
    split at e
    · rename_i hw
      rw [hw]
      simp only [Option.some.injEq, Prod.mk.injEq] at e
      obtain ⟨rfl, rfl, rfl, rfl⟩ := e
      exact ⟨_, rfl, fPut_ok h _ h hd, fun _ => ⟨rfl, rfl, rfl⟩⟩
    · rename_i hw
      rw [hw]
      dsimp only
      split at e
      · rename_i v hv
        rw [fPure_ok (orc := orc) (call := acall) h hv]
        simp only [Option.some.injEq, Prod.mk.injEq] at e
        obtain ⟨rfl, rfl, rfl, rfl⟩ := e
        exact ⟨_, rfl, fPut_ok h _ h hd, fun _ => ⟨rfl, rfl, rfl⟩⟩
      · split at e
        · rename_i v h1 hm
          rw [fMem_ok hc h hm]
          split at e
          · cases e
          · rename_i hq
            simp only [Option.some.injEq, Prod.mk.injEq] at e
            obtain ⟨rfl, rfl, rfl, rfl⟩ := e
            refine ⟨_, rfl, fPut_ok h _ h hd, fun hk => ?_⟩
            rw [hk] at hq
            simp only [Bool.true_and, Bool.not_eq_true', Bool.and_eq_false_iff, not_or, Bool.not_eq_false, List.isEmpty_iff, List.append_eq_nil_iff] at hq
            refine ⟨by rw [hq.1.1, hq.1.2]; rfl, hq.1.1, Nat.eq_of_beq_eq_true hq.2⟩
        · cases e
    · cases e

structure FRec where
  n0 : Nat
  n1 : Nat
  F : List Nat
  W : List Nat
def allLt (n : Nat) : List Nat → Bool
  | [] => true
  | k :: r => Nat.blt k n && allLt n r
theorem allLt_spec {n : Nat} : ∀ {l : List Nat}, allLt n l = true → ∀ k ∈ l, k < n
  | [], _, k, hk => by cases hk
  | x :: r, h, k, hk => by
    simp only [allLt, Bool.and_eq_true] at h
    rcases List.mem_cons.1 hk with rfl | hk
    · have h1 := h.1; rw [Nat.blt_eq] at h1; exact h1
    · exact allLt_spec h.2 k hk
def fReg (P : Program) (orc : Orc) (call : FuncId → List Value → AH → Option (Value × AH)) (n : Nat) : List FO → Fr → AH → Option (List FRec × Fr × AH)
  | [], fr, h => some ([], fr, h)
  | fo :: r, fr, h => match fOne P orc call n fo fr h with
    | none => none
    | some (fr1, h1, F, W) => (match allLt h.next F with
      | true => (match fReg P orc call n r fr1 h1 with
        | none => none
        | some (l, fr', h') => some (⟨h.next, h1.next, F, W⟩ :: l, fr', h'))
      | false => none)
/-- without the notes, where nobody asks for them -/
def fRegN (P : Program) (orc : Orc) (call : FuncId → List Value → AH → Option (Value × AH)) (n : Nat) : List FO → Fr → AH → Option (Fr × AH)
  | [], fr, h => some (fr, h)
  | fo :: r, fr, h => match fOne P orc call n fo fr h with
    | none => none
    | some (fr1, h1, F, W) => (match allLt h.next F with
      | true => fRegN P orc call n r fr1 h1
      | false => none)
theorem fRegN_ok {P : Program} {orc : Orc} {call : FuncId → List Value → AH → Option (Value × AH)} {n : Nat} : ∀ {l : List FO} {fr fr' : Fr} {h h' : AH}, fRegN P orc call n l fr h = some (fr', h') → ∃ rs, fReg P orc call n l fr h = some (rs, fr', h')
  | [], fr, fr', h, h', e => by
    simp only [fRegN, Option.some.injEq, Prod.mk.injEq] at e
    obtain ⟨rfl, rfl⟩ := e
    exact ⟨[], rfl⟩
  | fo :: r, fr, fr', h, h', e => by
    simp only [fRegN] at e
    simp only [fReg]
    split at e
    · cases e
    · rename_i fr1 h1 F W h2
      split at e
      · rename_i h3
        obtain ⟨rs, h4⟩ := fRegN_ok e
        rw [h4]
        exact ⟨_, rfl⟩
      · cases e
def quietAt (l : List FO) (i : Nat) : Bool :=
  match l[i]? with
  | some fo => fo.k.quiet
  | none => false
theorem regGo_stH0 {ops : Array Oper} {f : Oper → Array Value → AM Value} {r : List Oper} {ts ts' : Array Value} {h h' : AH} {l : List Rec} (e : regGo ops f r ts h = some (l, ts', h')) : stH l h' 0 = h := by
  cases r with
  | nil => simp only [regGo, Option.some.injEq, Prod.mk.injEq] at e; obtain ⟨rfl, rfl, rfl⟩ := e; rfl
  | cons o r =>
    simp only [regGo] at e
    split at e
    · cases e
    · split at e
      · cases e
      · simp only [Option.some.injEq, Prod.mk.injEq] at e; obtain ⟨rfl, rfl, rfl⟩ := e; rfl
theorem fReg_ok {P : Program} {orc : Orc} {call : FuncId → List Value → AH → Option (Value × AH)} {acall : FuncId → Array Value → AM Value} (hc : CallF call acall) {n : Nat} {ops : Array Oper} :
    ∀ {r : List Oper} {fos : List FO}, cOs P n ops r = some fos → ∀ {fr fr' : Fr} {ts : Array Value} {h h' : AH} {rs : List FRec}, FrOK n fr ts → fReg P orc call n fos fr h = some (rs, fr', h') →
    ∃ l ts', regGo ops (aOper P orc acall) r ts h = some (l, ts', h') ∧ FrOK n fr' ts' ∧ rs.length = r.length ∧
      ∀ j x, rs[j]? = some x → stF l j = x.F ∧ stW l j = x.W ∧ (stH l h' j).next = x.n0 ∧ (stH l h' (j + 1)).next = x.n1 ∧ (∀ k ∈ x.F, k < x.n0) ∧ (quietAt fos j = true → x.F = [] ∧ x.W = [] ∧ x.n1 = x.n0)
  | [], fos, hf, fr, fr', ts, h, h', rs, hfr, e => by
    simp only [cOs] at hf; injection hf with hf; subst hf
    simp only [fReg, Option.some.injEq, Prod.mk.injEq] at e
    obtain ⟨rfl, rfl, rfl⟩ := e
    exact ⟨[], ts, rfl, hfr, rfl, fun j x hx => by simp at hx⟩
  | o :: r, fos, hf, fr, fr', ts, h, h', rs, hfr, e => by
    simp only [cOs] at hf
    split at hf
    case h_2 => cases hf
    case h_1 fo hfo =>
      split at hf
      case h_2 => cases hf
      case h_1 fl hfl =>
        injection hf with hf; subst hf
        simp only [fReg] at e
        split at e
        case h_1 => cases e
        case h_2 fr1 h1 F W h2 =>
          split at e
          case h_2 => cases e
          case h_1 hlt =>
            split at e
            case h_1 => cases e
            case h_2 l2 fr2 h3 h4 =>
              simp only [Option.some.injEq, Prod.mk.injEq] at e
              obtain ⟨rfl, rfl, rfl⟩ := e
              obtain ⟨ts1, q1, q2, q3⟩ := fOne_ok hc hfo hfr h2
              obtain ⟨l, ts', p1, p2, p3, p4⟩ := fReg_ok hc hfl q2 h4
              refine ⟨⟨ts, h, F, W⟩ :: l, ts', ?_, p2, by simp [p3], fun j x hx => ?_⟩
              · simp only [regGo, q1, p1]
              · cases j with
                | zero =>
                  simp only [List.getElem?_cons_zero, Option.some.injEq] at hx
                  subst hx
                  refine ⟨rfl, rfl, rfl, ?_, allLt_spec hlt, fun hq => q3 (by simpa [quietAt] using hq)⟩
                  have := regGo_stH0 p1
                  show (stH l h3 0).next = _
                  rw [this]
                | succ j =>
                  simp only [List.getElem?_cons_succ] at hx
                  obtain ⟨a1, a2, a3, a4, a5, a6⟩ := p4 j x hx
                  exact ⟨by simpa [stF] using a1, by simpa [stW] using a2, by simpa [stH] using a3, by simpa [stH] using a4, a5, fun hq => a6 (by simpa [quietAt] using hq)⟩

def regOK (ops : Array Oper) (fos : List FO) (pairs : List (Nat × Nat)) : Bool :=
  let clo := closeGo ops.toList []
  (List.range ops.size).all fun j =>
    (match ops[j]? with
     | some o => (edges o).all (fun e => decide (e < j))
     | none => false) &&
    (List.range j).all fun i => (clo.getD j []).contains i ||
      ((match ops[i]?, ops[j]? with
        | some x, some y => x.apart ops y
        | _, _ => false) && (quietAt fos i || quietAt fos j || pairs.contains (i, j)))
def pairsOf (ops : Array Oper) (fos : List FO) : List (Nat × Nat) :=
  let clo := closeGo ops.toList []
  (List.range ops.size).flatMap fun j => if quietAt fos j then [] else
    ((List.range j).filter fun i => !((clo.getD j []).contains i || quietAt fos i)).map fun i => (i, j)
def dynOK (rs : List FRec) (pairs : List (Nat × Nat)) : Bool :=
  pairs.all fun p => match rs[p.1]?, rs[p.2]? with
    | some a, some b => b.F.all (fun k => !a.W.contains k && !(decide (a.n0 ≤ k) && decide (k < a.n1))) && a.F.all (fun k => !b.W.contains k)
    | _, _ => false
theorem okReg_of {ops : Array Oper} {fos : List FO} {pairs : List (Nat × Nat)} {rs : List FRec} {l : List Rec} {ts' : Array Value} {h' : AH} (h1 : regOK ops fos pairs = true) (h2 : dynOK rs pairs = true) (hlen : rs.length = ops.size)
    (h3 : ∀ j x, rs[j]? = some x → stF l j = x.F ∧ stW l j = x.W ∧ (stH l h' j).next = x.n0 ∧ (stH l h' (j + 1)).next = x.n1 ∧ (∀ k ∈ x.F, k < x.n0) ∧ (quietAt fos j = true → x.F = [] ∧ x.W = [] ∧ x.n1 = x.n0)) : okReg ops l ts' h' = true := by
  unfold okReg
  unfold regOK at h1
  dsimp only at h1 ⊢
  rw [List.all_eq_true] at h1 ⊢
  have hx : ∀ j, j < ops.size → ∃ x, rs[j]? = some x := fun j hj => by
    exact ⟨_, List.getElem?_eq_getElem (by omega)⟩
  intro j hj
  have hjs : j < ops.size := by simpa using hj
  have h4 := h1 j hj
  rw [Bool.and_eq_true] at h4
  obtain ⟨y, hy⟩ := hx j hjs
  obtain ⟨b1, b2, b3, b4, b5, b6⟩ := h3 j y hy
  rw [Bool.and_eq_true, Bool.and_eq_true]
  refine ⟨⟨h4.1, ?_⟩, ?_⟩
  · rw [List.all_eq_true]
    intro k hk
    rw [b1] at hk
    rw [b3]
    exact decide_eq_true (b5 k hk)
  · rw [List.all_eq_true] at h4 ⊢
    intro i hi
    have hij : i < j := by simpa using hi
    have h5 := h4.2 i hi
    unfold noMeet
    rw [Bool.or_eq_true] at h5 ⊢
    rcases h5 with h5 | h5
    · exact .inl h5
    · right
      rw [Bool.and_eq_true] at h5
      obtain ⟨x, hxi⟩ := hx i (by omega)
      obtain ⟨a1, a2, a3, a4, a5, a6⟩ := h3 i x hxi
      rw [Bool.and_eq_true, Bool.and_eq_true, a1, a2, a3, a4, b1, b2]
      have h6 := h5.2
      rw [Bool.or_eq_true, Bool.or_eq_true] at h6
      rcases h6 with (h6 | h6) | h6
      · obtain ⟨c1, c2, c3⟩ := a6 h6
        refine ⟨⟨h5.1, ?_⟩, ?_⟩
        · rw [c2, c3, List.all_eq_true]
          intro k _
          simp
          omega
        · rw [c1]; rfl
      · obtain ⟨c1, c2, c3⟩ := b6 h6
        refine ⟨⟨h5.1, ?_⟩, ?_⟩
        · rw [c1]; rfl
        · rw [c2, List.all_eq_true]
          intro k _
          rfl
      · unfold dynOK at h2
        rw [List.all_eq_true] at h2
        have h7 := h2 (i, j) (by simpa using h6)
        dsimp only at h7
        rw [hxi, hy] at h7
        dsimp only at h7
        rw [Bool.and_eq_true] at h7
        exact ⟨⟨h5.1, h7.1⟩, h7.2⟩
end Go.Proofs.Ytljhlnpbomehkaa
