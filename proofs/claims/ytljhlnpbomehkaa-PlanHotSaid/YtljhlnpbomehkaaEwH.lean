/- An evaluator of Go code whose memory has names of its own (8): operations that look at no memory. -/
import Derived.Test.YtljhlnpbomehkaaEwG
import Derived.Laws.Entries
namespace Go.Proofs.Ytljhlnpbomehkaa
set_option linter.unusedVariables false
set_option linter.unusedSimpArgs false

def SymOk (r : Ren) : Prop := ∀ k, (r.σ k).oneCell' = true
/-- wherever names lie: it leaves out -/
def PureOK (P : Program) (ev : Operand → Value) (o : Oper) (out : Value) : Prop :=
  ∀ (r : Ren), SymOk r → ∀ w : World, (execOp (fun x => ren r (ev x)) o).run P w = .ok (.value (ren r out)) w

def pureRun {α : Type} (P : Program) : Sem α → Option α
  | .pure a => some a
  | .program k => pureRun P (k P)
  | _ => none
theorem pureRun_run {α : Type} {P : Program} : ∀ (s : Sem α) {a : α}, pureRun P s = some a → ∀ w, s.run P w = .ok a w := by
  intro s
  induction s with
  | pure a => intro b h w; simp [pureRun] at h; subst h; rfl
  | program k ih => intro b h w; simp only [pureRun] at h; simp only [Sem.run]; exact ih P h w
  | _ => intro b h w; simp [pureRun] at h
def noSel : Op → Bool
  | .select .. => false
  | _ => true
theorem noSel_ne {o : Op} (h : noSel o = true) : ∀ cs b, o ≠ .select cs b := by
  intro cs b e; subst e; cases h
def closedRun (P : Program) (ev : Operand → Value) (o : Oper) : Option Value :=
  if noSel o.op && o.op.operands.toList.all (fun x => shut (ev x)) then
    match pureRun P (execOp ev o) with
    | some (.value v) => if shut v then some v else none
    | _ => none
  else none
theorem closedRun_ok {P : Program} {ev : Operand → Value} {o : Oper} {out : Value} (h : closedRun P ev o = some out) : PureOK P ev o out := by
  unfold closedRun at h
  split at h
  case isFalse => cases h
  case isTrue hc =>
    rw [Bool.and_eq_true] at hc
    split at h
    case h_2 => cases h
    case h_1 v hv =>
      split at h
      case isFalse => cases h
      case isTrue hs =>
        injection h with h; subst h
        intro r hr w
        rw [execOp_congr (ρ := fun x => ren r (ev x)) (ρ' := ev) o (noSel_ne hc.1) (fun x hx => ren_shut r ((List.all_eq_true.1 hc.2) x (by simpa using hx)))]
        rw [ren_shut r hs]
        exact pureRun_run _ hv w

theorem cells_ren {r : Ren} (hr : SymOk r) (v : Value) : (ren r v).cells = v.cells.map (ren r) := by
  cases v with
  | agg cs => simp [ren, Value.cells]
  | chan k =>
    cases k with
    | none => simp [ren, Value.cells]
    | some k =>
      have := hr k
      have e : ren r (.chan (some k)) = r.σ k := by simp [ren]
      have e2 : (Value.chan (some k)).cells = #[.chan (some k)] := rfl
      rw [e2, show (#[Value.chan (some k)].map (ren r)) = #[r.σ k] from by simp [e], e]
      revert this
      generalize r.σ k = z
      cases z <;> simp [Value.oneCell', Value.cells]
  | pointer a => cases a <;> simp [ren, Value.cells]
  | slice a n c => cases a <;> simp [ren, Value.cells]
  | map a => cases a <;> simp [ren, Value.cells]
  | _ => simp [ren, Value.cells]
theorem oneCell_ren {r : Ren} (hr : SymOk r) (v : Value) : (ren r v).oneCell' = v.oneCell' := by
  cases v with
  | chan k =>
    cases k with
    | none => simp [ren]
    | some k => simp only [ren, hr k]; rfl
  | pointer a => cases a <;> simp [ren, Value.oneCell']
  | slice a n c => cases a <;> simp [ren, Value.oneCell']
  | map a => cases a <;> simp [ren, Value.oneCell']
  | _ => simp [ren, Value.oneCell']

/-- a part of a struct's, an array's cells -/
def aPart (P : Program) (t : TypeId) (cs : Array Value) (off : Nat) : Option Value :=
  match P.info? t, P.underlying t with
  | some i, some d => if isRowD d then some (.agg (cs.extract off (off + i.size))) else cs[off]?
  | _, _ => none
theorem aPart_run {P : Program} {t : TypeId} {cs : Array Value} {off : Nat} {v : Value} (h : aPart P t cs off = some v) (r : Ren) (w : World) :
    (part t (cs.map fun v => ren r v) off).run P w = .ok (ren r v) w := by
  unfold aPart at h
  cases hi : P.info? t with
  | none => rw [hi] at h; cases h
  | some i =>
    cases hu : P.underlying t with
    | none => rw [hi, hu] at h; cases h
    | some d =>
      rw [hi, hu] at h
      dsimp only at h
      have hag : (isAgg t).run P w = .ok (isRowD d) w := by
        unfold isAgg
        rw [Sem.run_bind, run_underlying hu w]
        cases d <;> rfl
      have hs : (sizeOf t).run P w = .ok i.size w := by simp [sizeOf, typeInfo, hi]
      unfold part
      rw [Sem.run_bind, hag]
      cases hd : isRowD d with
      | true =>
        rw [hd, if_pos rfl] at h
        injection h with h; subst h
        simp only [Result.andThen_ok, if_true, Sem.run_bind, hs, Sem.run_pure, ren, Array.map_extract]
      | false =>
        rw [hd, if_neg (by simp)] at h
        simp [h]

/-- equal, where one of both is nil -/
def nilEq : TypeDesc → Value → Value → Option Bool
  | .pointer _, .pointer none, .pointer none => some true
  | .pointer _, .pointer none, .pointer (some _) => some false
  | .pointer _, .pointer (some _), .pointer none => some false
  | .interface _, .nilIface, .iface _ _ => some false
  | .interface _, .iface _ _, .nilIface => some false
  | .slice _, .slice none _ _, .slice none _ _ => some true
  | .slice _, .slice none _ _, .slice (some _) _ _ => some false
  | .slice _, .slice (some _) _ _, .slice none _ _ => some false
  | .map _ _, .map none, .map none => some true
  | .map _ _, .map none, .map (some _) => some false
  | .map _ _, .map (some _), .map none => some false
  | .func _ _ _, .nilFunc, .nilFunc => some true
  | .func _ _ _, .nilFunc, .func _ _ _ => some false
  | .func _ _ _, .func _ _ _, .nilFunc => some false
  | _, _, _ => none
/-- a pair of which '==' is asked without more -/
inductive NilPair : Value → Value → Prop
  | ptr (a b : Option Addr) : NilPair (.pointer a) (.pointer b)
  | sl (a b : Option Addr) (n c m d : Nat) : NilPair (.slice a n c) (.slice b m d)
  | mp (a b : Option Nat) : NilPair (.map a) (.map b)
  | fn1 : NilPair .nilFunc .nilFunc
  | fn2 (f : Fn) (a b : Array Value) : NilPair .nilFunc (.func f a b)
  | fn3 (f : Fn) (a b : Array Value) : NilPair (.func f a b) .nilFunc
  | if1 (t : TypeId) (v : Value) : NilPair .nilIface (.iface t v)
  | if2 (t : TypeId) (v : Value) : NilPair (.iface t v) .nilIface
theorem NilPair.eql {P : Program} {x y : Value} (h : NilPair x y) {t : TypeId} {X Y : Operand} {w : World} {b : Bool} (he : (Op.equal t x y).run P w = .ok b w) :
    (eqGuard .eql t X Y x y).run P w = .ok () w ∧ (eqGuard .neq t X Y x y).run P w = .ok () w ∧ (binOp .eql t x y).run P w = .ok (.bool b) w ∧ (binOp .neq t x y).run P w = .ok (.bool (!b)) w := by
  cases h <;> exact ⟨rfl, rfl, by simp only [binOp, Sem.run_bind, he]; rfl, by simp only [binOp, Sem.run_bind, he]; rfl⟩
theorem nilEq_run {P : Program} {t : TypeId} {d : TypeDesc} (hu : P.underlying t = some d) {x y : Value} {b : Bool} (h : nilEq d x y = some b) (r : Ren) (w : World) :
    NilPair (ren r x) (ren r y) ∧ (Op.equal t (ren r x) (ren r y)).run P w = .ok b w := by
  have key : (Op.equal t (ren r x) (ren r y)).run P w = (Op.equalIn (9999 + 1) t (ren r x) (ren r y)).run P w := rfl
  rw [key, Op.equalIn.eq_2, Sem.run_bind, run_underlying hu w, Result.andThen_ok]
  unfold nilEq at h
  split at h
  all_goals first
    | (cases h; done)
    | (injection h with h; subst h
       simp only [ren]
       exact ⟨by constructor, rfl⟩)

/-- an operation on two ints -/
def intRun (P : Program) (op : BinOp) : Value → Value → Option Value
  | .int k a, .int l b => (match pureRun P (binOp op 0 (.int k a) (.int l b)) with
    | some v => if shut v then some v else none
    | none => none)
  | _, _ => none
theorem intRun_run {P : Program} {op : BinOp} {vx vy v : Value} (h : intRun P op vx vy = some v) (r : Ren) (t : TypeId) (x y : Operand) (w : World) :
    ((do eqGuard op t x y (ren r vx) (ren r vy); binOp op t (ren r vx) (ren r vy)) : Sem Value).run P w = .ok (ren r v) w := by
  unfold intRun at h
  split at h
  case h_2 => cases h
  case h_1 k a l b =>
    split at h
    case h_2 => cases h
    case h_1 u hu =>
      split at h
      case isFalse => cases h
      case isTrue hs =>
        injection h with h; subst h
        have hr := pureRun_run _ hu w
        have hb : binOp op t (.int k a) (.int l b) = binOp op 0 (.int k a) (.int l b) := by cases op <;> rfl
        have hg : (eqGuard op t x y (.int k a) (.int l b)).run P w = .ok () w := by
          unfold eqGuard
          cases op <;> rfl
        have e1 : ren r (.int k a) = .int k a := by simp [ren]
        have e2 : ren r (.int l b) = .int l b := by simp [ren]
        rw [e1, e2, ren_shut r hs, Sem.run_bind, hg, hb]
        exact hr
def notRun : UnOp → Value → Option Value
  | .not, .bool b => some (.bool (!b))
  | _, _ => none
def aPure (P : Program) (ev : Operand → Value) (o : Oper) : Option Value :=
  match o.op with
  | .move x => some (ev x)
  | .assign x => some (ev x)
  | .pick c a b => (match ev c with
    | .bool t => some (if t then ev a else ev b)
    | _ => none)
  | .extract t i => (match ev t with
    | .tuple vs => vs[i]?
    | _ => none)
  | .makeInterface t x => (match P.underlying t with
    | some (.interface _) => none
    | some _ => some (.iface t (ev x))
    | none => none)
  | .makeFunc fn fs cs => some (.func fn (fs.map ev) (cs.map ev))
  | .nilCheck x => (match ev x with
    | .pointer (some a) => some (.pointer (some a))
    | .func (.func f) a b => some (.func (.func f) a b)
    | .iface t v => some (.iface t v)
    | .map (some r) => some (.map (some r))
    | _ => none)
  | .fieldAddr s x f => (match ev x, P.underlying s with
    | .pointer (some a), some (.struct fields) => (match fields[f]? with
      | some fd => (match P.info? fd.type with
        | some i => if i.size = 0 then none else some (.pointer (some (a.add fd.offset)))
        | none => none)
      | none => none)
    | _, _ => none)
  | .indexAddr t x ix => (match ev ix, P.underlying t, ev x with
    | .int k i, some (.slice e), .slice (some ⟨ab, ao, none⟩) len _ => (match P.info? e with
      | some inf => if 0 ≤ i ∧ i < len then some (.pointer (some ((⟨ab, ao, none⟩ : Addr).add (i.toNat * inf.size)))) else none
      | none => none)
    | .int k i, some (.array len e), .pointer (some a) => (match P.info? e with
      | some inf => if 0 ≤ i ∧ i < len then some (.pointer (some (a.add (i.toNat * inf.size)))) else none
      | none => none)
    | _, _, _ => none)
  | .field t x f => (match P.underlying t, ev x with
    | some (.struct fields), .agg cs => (match fields[f]? with
      | some fd => aPart P fd.type cs fd.offset
      | none => none)
    | _, _ => none)
  | .index t x ix => (match ev ix, P.underlying t, ev x with
    | .int k i, some (.array len e), .agg cs => (match P.info? e with
      | some inf => if 0 ≤ i ∧ i < len then aPart P e cs (i.toNat * inf.size) else none
      | none => none)
    | _, _, _ => closedRun P ev o)
  | .typeAssert x xt asserted ok => (match P.underlying asserted, ev x with
    | some (.interface _), _ => none
    | some _, .iface t v => if t = asserted then some (if ok then .tuple #[v, .bool true] else v) else none
    | _, _ => none)
  | .binOp op t x y _ => (match intRun P op (ev x) (ev y) with
    | some v => some v
    | none => (match closedRun P ev o with
    | some v => some v
    | none => (match op, P.underlying t with
      | .eql, some d => (nilEq d (ev x) (ev y)).map .bool
      | .neq, some d => (nilEq d (ev x) (ev y)).map fun b => .bool (!b)
      | _, _ => none)))
  | .unOp op _ x => (match notRun op (ev x) with
    | some v => some v
    | none => closedRun P ev o)
  | .convert .. => closedRun P ev o
  | _ => none

theorem renA_add (r : Ren) (a : Addr) (n : Nat) : (renA r a).add n = renA r (a.add n) := by
  unfold Addr.add renA
  split <;> rfl
theorem map_comp (r : Ren) (ev : Operand → Value) (a : Array Operand) : a.map (fun x => ren r (ev x)) = (a.map ev).map fun v => ren r v := by
  rw [Array.map_map]; rfl
theorem ren_pointer_some {r : Ren} {a : Addr} : ren r (.pointer (some a)) = .pointer (some (renA r a)) := by simp [ren]
theorem ren_slice_some {r : Ren} {b o : Nat} {n c : Nat} : ren r (.slice (some ⟨b, o, none⟩) n c) = .slice (some (renA r ⟨b, o, none⟩)) n (renCap r b c) := by simp [ren, renB]
theorem ren_int {r : Ren} {k : IntKind} {n : Int} : ren r (.int k n) = .int k n := by simp [ren]
theorem ren_bool {r : Ren} {b : Bool} : ren r (.bool b) = .bool b := by simp [ren]
theorem ren_agg {r : Ren} {cs : Array Value} : ren r (.agg cs) = .agg (cs.map fun v => ren r v) := by simp [ren]
theorem ren_tuple {r : Ren} {cs : Array Value} : ren r (.tuple cs) = .tuple (cs.map fun v => ren r v) := by simp [ren]
theorem ren_iface {r : Ren} {t : TypeId} {v : Value} : ren r (.iface t v) = .iface t (ren r v) := by simp [ren]
theorem ren_map_some {r : Ren} {n : Nat} : ren r (.map (some n)) = .map (some (r.φ n)) := by simp [ren]
theorem ren_func {r : Ren} {f : Fn} {x y : Array Value} : ren r (.func f x y) = .func f (x.map fun v => ren r v) (y.map fun v => ren r v) := by simp [ren]

theorem nilBin_run {P : Program} {t : TypeId} {x y : Operand} {vx vy : Value} {d : TypeDesc} {b : Bool} (hu : P.underlying t = some d) (hn : nilEq d vx vy = some b) (r : Ren) (w : World) :
    ((do eqGuard .eql t x y (ren r vx) (ren r vy); binOp .eql t (ren r vx) (ren r vy)) : Sem Value).run P w = .ok (.bool b) w ∧
    ((do eqGuard .neq t x y (ren r vx) (ren r vy); binOp .neq t (ren r vx) (ren r vy)) : Sem Value).run P w = .ok (.bool (!b)) w := by
  obtain ⟨h1, h2⟩ := nilEq_run hu hn r w
  obtain ⟨g1, g2, g3, g4⟩ := h1.eql (X := x) (Y := y) h2
  exact ⟨by rw [Sem.run_bind, g1]; exact g3, by rw [Sem.run_bind, g2]; exact g4⟩
theorem aPure_ok {P : Program} {ev : Operand → Value} {o : Oper} {out : Value} (h : aPure P ev o = some out) : PureOK P ev o out := by
  have h0 := h
  unfold aPure at h
  split at h
  · rename_i x ho; injection h with h; subst h
    intro r hr w; unfold execOp; simp [ho]
  · rename_i x ho; injection h with h; subst h
    intro r hr w; unfold execOp; simp [ho]
  · rename_i c a b ho
    split at h
    · rename_i t ht; injection h with h; subst h
      intro r hr w; unfold execOp; simp only [ho, ht, ren_bool]
      cases t <;> simp [asBool]
    · cases h
  · rename_i t i ho
    split at h
    · rename_i vs ht
      intro r hr w; unfold execOp; simp [ho, ht, ren_tuple, Instr.extract, h]
    · cases h
  · rename_i t x ho
    split at h
    · cases h
    · rename_i d hd hu; injection h with h; subst h
      intro r hr w; unfold execOp
      simp only [ho, Instr.makeInterface, Sem.run_bind, run_underlying hu w, Result.andThen_ok, ren_iface]
      cases d <;> first
        | rfl
        | exact absurd rfl (hd _)
    · cases h
  · rename_i fn fs cs ho; injection h with h; subst h
    intro r hr w; unfold execOp
    simp only [ho, Instr.makeFunc, Sem.run_bind, Sem.run_pure, Result.andThen_ok, ren_func, map_comp]
  · rename_i x ho
    split at h
    · rename_i a ha; injection h with h; subst h
      intro r hr w; unfold execOp; simp [ho, ha, ren_pointer_some]
    · rename_i f a b ha; injection h with h; subst h
      intro r hr w; unfold execOp; simp [ho, ha, ren_func]
    · rename_i t v ha; injection h with h; subst h
      intro r hr w; unfold execOp; simp [ho, ha, ren_iface]
    · rename_i n ha; injection h with h; subst h
      intro r hr w; unfold execOp; simp [ho, ha, ren_map_some]
    · cases h
  · rename_i s x f ho
    split at h
    · rename_i a fields ha hu
      split at h
      · rename_i fd hf
        split at h
        · rename_i i hi
          split at h
          · cases h
          · rename_i hz; injection h with h; subst h
            intro r hr w; unfold execOp
            have hsz : (sizeOf fd.type).run P w = .ok i.size w := by simp [sizeOf, typeInfo, hi]
            simp [ho, ha, ren_pointer_some, Instr.fieldAt, run_underlying hu w, hf, Instr.sureAddr, fieldPlace, hsz, hz, renA_add]
        · cases h
      · cases h
    · cases h
  · rename_i t x ix ho
    split at h
    · rename_i k i e ab ao len c hix hu hx
      split at h
      · rename_i inf hi
        split at h
        · rename_i hb; injection h with h; subst h
          intro r hr w; unfold execOp
          have hsz : (sizeOf e).run P w = .ok inf.size w := by simp [sizeOf, typeInfo, hi]
          simp [ho, hix, hx, ren_int, ren_slice_some, Instr.indexAt, asIntOf, run_underlying hu w, hb.1, hb.2, hsz, renA_add, ren_pointer_some]
        · cases h
      · cases h
    · rename_i k i len e a hix hu hx
      split at h
      · rename_i inf hi
        split at h
        · rename_i hb; injection h with h; subst h
          intro r hr w; unfold execOp
          have hsz : (sizeOf e).run P w = .ok inf.size w := by simp [sizeOf, typeInfo, hi]
          simp [ho, hix, hx, ren_int, Instr.indexAt, asIntOf, run_underlying hu w, hb.1, hb.2, hsz, renA_add, ren_pointer_some, Instr.sureAddr]
        · cases h
      · cases h
    · cases h
  · rename_i t x f ho
    split at h
    · rename_i fields cs hu hx
      split at h
      · rename_i fd hf
        intro r hr w; unfold execOp
        simp [ho, hx, ren_agg, Instr.field, run_underlying hu w, hf, asAgg, aPart_run h r w]
      · cases h
    · cases h
  · rename_i t x ix ho
    split at h
    · rename_i k i len e cs hix hu hx
      split at h
      · rename_i inf hi
        split at h
        · rename_i hb
          intro r hr w; unfold execOp
          have hsz : (sizeOf e).run P w = .ok inf.size w := by simp [sizeOf, typeInfo, hi]
          simp [ho, hix, hx, ren_int, ren_agg, Instr.index, asIntOf, run_underlying hu w, hb.1, hb.2, hsz, aPart_run h r w]
        · cases h
      · cases h
    · exact closedRun_ok h
  · rename_i x xt asserted ok ho
    split at h
    · cases h
    · rename_i d t v hd hu hx
      split at h
      · rename_i hta
        injection h with h; subst h
        intro r hr w; unfold execOp
        simp only [ho, hx, ren_iface, Instr.typeAssert, Sem.run_bind, run_underlying hu w, Result.andThen_ok]
        subst hta
        cases d <;> first
          | exact absurd hu (by simpa using hd _)
          | (cases ok <;> simp [ren_tuple, ren_bool])
      · cases h
    · cases h
  · rename_i op t x y yt ho
    cases hi : intRun P op (ev x) (ev y) with
    | some v =>
     rw [hi] at h
     injection h with h; subst h
     intro r hr w
     have := intRun_run hi r t x y w
     unfold execOp
     simp only [ho]
     rw [Sem.run_bind, this]; rfl
    | none =>
    rw [hi] at h
    dsimp only at h
    cases hc : closedRun P ev o with
    | some v =>
      rw [hc] at h
      injection h with h; subst h
      exact closedRun_ok hc
    | none =>
      rw [hc] at h
      dsimp only at h
      split at h
      · rename_i d hu
        cases hn : nilEq d (ev x) (ev y) with
        | none => rw [hn] at h; cases h
        | some b =>
          rw [hn] at h; injection h with h; subst h
          intro r hr w; unfold execOp
          simp only [ho]
          rw [Sem.run_bind, (nilBin_run hu hn r w).1, ren_bool]; rfl
      · rename_i d hu
        cases hn : nilEq d (ev x) (ev y) with
        | none => rw [hn] at h; cases h
        | some b =>
          rw [hn] at h; injection h with h; subst h
          intro r hr w; unfold execOp
          simp only [ho]
          rw [Sem.run_bind, (nilBin_run hu hn r w).2, ren_bool]; rfl
      · cases h
  · rename_i op t x ho
    split at h
    · rename_i v hn
      injection h with h; subst h
      unfold notRun at hn
      split at hn
      · rename_i b hb
        injection hn with hn; subst hn
        intro r hr w
        unfold execOp
        simp [ho, hb, ren_bool, Op.unary]
      · cases hn
    · exact closedRun_ok h
  · exact closedRun_ok h
  · cases h
end Go.Proofs.Ytljhlnpbomehkaa
