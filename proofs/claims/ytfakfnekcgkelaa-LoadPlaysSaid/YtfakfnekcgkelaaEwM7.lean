/- An evaluator of Go code whose memory has names of its own (7 of 9). -/
import Derived.Test.YtfakfnekcgkelaaEwM6
import Derived.Test.YtfakfnekcgkelaaProg
import Derived.KernelRfl
import Derived.Laws.StructEq
/- An evaluator of Go code whose memory has names of its own (18): lengths of texts and slices that are symbols. -/
namespace Go.Proofs.Ytfakfnekcgkelaa
set_option linter.unusedVariables false
set_option linter.unusedSimpArgs false

/-- (symbol, whether a text, bound, whether its length is above the bound) -/
abbrev LenT := List (Nat × Bool × Nat × Bool)
def LenT.has (T : LenT) (k : Nat) (s : Bool) : Bool := T.any fun p => p.1 == k && p.2.1 == s
def LenT.ans (T : LenT) (k b : Nat) : Option Bool := (T.find? fun p => p.1 == k && p.2.2.1 == b).map (·.2.2.2)
def lenAsk (P : Program) (T : LenT) : OrcF := fun ev o =>
  match o.op with
  | .call c => (match c.callee, c.args.toList, c.argTypes.toList with
    | .builtin .len, [x], [t] => (match ev x, P.underlying t with
      | .chan (some k), some .string => if T.has k true then some (.chan (some (k + 1000))) else none
      | .chan (some k), some (.slice _) => if T.has k false then some (.chan (some (k + 1000))) else none
      | _, _ => none)
    | _, _, _ => none)
  | .binOp .gtr _ x y _ => (match ev x, ev y with
    | .chan (some k), .int .i64 b => if 1000 ≤ k ∧ 0 ≤ b then (T.ans (k - 1000) b.toNat).map .bool else none
    | _, _ => none)
  | _ => none
/-- the symbols are what the table says -/
def LenOK (T : LenT) (σ : Nat → Value) : Prop :=
  ∀ p ∈ T, ∃ n : Nat, σ (p.1 + 1000) = .int .i64 n ∧ decide (p.2.2.1 < n) = p.2.2.2 ∧ (if p.2.1 then ∃ s : ByteArray, σ p.1 = .string s ∧ s.size = n else ∃ a c, σ p.1 = .slice a n c)
theorem ren_sym {r : Ren} {k : Nat} : ren r (.chan (some k)) = r.σ k := by simp [ren]
theorem lenAsk_ok (P : Program) (T : LenT) (σ : Nat → Value) (h : LenOK T σ) : AskOK P (· = σ) (lenAsk P T) := by
  intro ev o v he
  unfold lenAsk at he
  split at he
  case h_3 => cases he
  case h_1 c ho =>
    split at he
    case h_2 => cases he
    case h_1 x t hc ha ht =>
      refine ⟨by rw [ho]; rfl, fun r hr _ w => ?_⟩
      have e1 : c.args = #[x] := by apply Array.ext'; simpa using ha
      have e2 : c.argTypes = #[t] := by apply Array.ext'; simpa using ht
      split at he
      case h_3 => cases he
      case h_1 k hx hu =>
        split at he
        case isFalse => cases he
        case isTrue hT =>
          injection he with he; subst he
          obtain ⟨p, hp, hpk⟩ := List.any_eq_true.1 hT
          simp only [Bool.and_eq_true, beq_iff_eq] at hpk
          obtain ⟨n, g1, g2, g3⟩ := h p hp
          rw [hpk.2, if_pos rfl, hpk.1] at g3
          rw [hpk.1] at g1
          obtain ⟨s, g4, g5⟩ := g3
          unfold execOp
          simp [ho, resolve, hc, e1, e2, invoke, builtin, Builtin.len_, hx, ren_sym, hr, g4, run_underlying hu w, goInt, g1, g5]
      case h_2 k e hx hu =>
        split at he
        case isFalse => cases he
        case isTrue hT =>
          injection he with he; subst he
          obtain ⟨p, hp, hpk⟩ := List.any_eq_true.1 hT
          simp only [Bool.and_eq_true, beq_iff_eq] at hpk
          obtain ⟨n, g1, g2, g3⟩ := h p hp
          rw [hpk.2, if_neg (by simp), hpk.1] at g3
          rw [hpk.1] at g1
          obtain ⟨a, cc, g4⟩ := g3
          unfold execOp
          simp [ho, resolve, hc, e1, e2, invoke, builtin, Builtin.len_, hx, ren_sym, hr, g4, run_underlying hu w, goInt, g1]
  case h_2 t x y yt ho =>
    split at he
    case h_2 => cases he
    case h_1 k b hx hy =>
      split at he
      case isFalse => cases he
      case isTrue hk =>
        cases ha : T.ans (k - 1000) b.toNat with
        | none => rw [ha] at he; cases he
        | some res =>
          rw [ha] at he
          simp only [Option.map_some, Option.some.injEq] at he
          subst he
          refine ⟨by rw [ho]; rfl, fun r hr _ w => ?_⟩
          unfold LenT.ans at ha
          cases hf : T.find? (fun p => p.1 == k - 1000 && p.2.2.1 == b.toNat) with
          | none => rw [hf] at ha; cases ha
          | some p =>
            rw [hf] at ha
            simp only [Option.map_some, Option.some.injEq] at ha
            have hp := List.find?_some hf
            simp only [Bool.and_eq_true, beq_iff_eq] at hp
            obtain ⟨n, g1, g2, g3⟩ := h p (List.mem_of_find?_eq_some hf)
            have hk2 : p.1 + 1000 = k := by omega
            rw [hk2] at g1
            have hcmp : decide (b < (n : Int)) = res := by
              rw [← ha, ← g2, hp.2]
              congr 1
              apply propext
              omega
            unfold execOp
            simp only [ho, hx, hy, ren_sym, hr, g1, ren_int, ren_bool, Sem.run_bind]
            have h1 : (eqGuard .gtr t x y (.int .i64 n) (.int .i64 b)).run P w = .ok () w := rfl
            have h2 : (binOp .gtr t (.int .i64 n) (.int .i64 b)).run P w = .ok (.bool (decide ((n : Int) > b))) w := by simp [binOp, Op.intCmp]
            rw [h1]
            simp only [Result.andThen_ok, h2, Sem.run_pure]
            rw [← hcmp]
def lenOrc (P : Program) (T : LenT) : Orc := ⟨lenAsk P T, [], fun _ => none⟩
theorem lenOrc_ok (P : Program) (T : LenT) (σ : Nat → Value) (h : LenOK T σ) : OrcOK P (· = σ) (lenOrc P T) := ⟨lenAsk_ok P T σ h, (fun g hg => nomatch hg), fun _ _ h => nomatch h⟩
theorem symF_one {l : List (Nat × Value)} (h : ∀ p ∈ l, p.2.oneCell' = true) : ∀ k, (symF l k).oneCell' = true := by
  induction l with
  | nil => intro k; rfl
  | cons p r ih =>
    intro k
    unfold symF
    split
    · exact h p (by simp)
    · exact ih (fun q hq => h q (List.mem_cons_of_mem _ hq)) k
end Go.Proofs.Ytfakfnekcgkelaa
/- The evaluator at this seat's program: what it asks of the program. -/
namespace Go.Proofs.Ytfakfnekcgkelaa
theorem evMixed : Try.prog.follows .mixedOrders = true := by kernel_rfl
theorem evNames0 : (Try.prog.funcs.toList.all fun fn => !(fn.name == "runtime.NumGoroutine")) = true := by kernel_rfl
theorem evNames : NameOK Try.prog := fun f fn h => by
  have := (List.all_eq_true.1 evNames0) fn (by simpa using Array.mem_of_getElem? h)
  simpa using this
end Go.Proofs.Ytfakfnekcgkelaa
/- An evaluator of Go code whose memory has names of its own (19): symbols of which is known between what they lie; trees of questions. -/
namespace Go.Proofs.Ytfakfnekcgkelaa
set_option linter.unusedVariables false
set_option linter.unusedSimpArgs false

structure Info where
  lo : Int
  hi : Int
  ne : List Int
def Info.has (i : Info) (n : Int) : Prop := i.lo ≤ n ∧ n ≤ i.hi ∧ n ∉ i.ne
abbrev KB := List (Nat × Info)
def KB.find : KB → Nat → Option Info
  | [], _ => none
  | p :: r, k => if p.1 = k then some p.2 else KB.find r k
def KB.put : KB → Nat → Info → KB
  | [], _, _ => []
  | p :: r, k, i => if p.1 = k then (k, i) :: r else p :: KB.put r k i
/-- numbers lie where it is said -/
def KOK (K : KB) (σ : Nat → Value) : Prop := ∀ (k : Nat) (i : Info), K.find k = some i → ∃ n : Int, σ k = .int .i64 n ∧ i.has n
/-- texts, and their lengths -/
def SOK (S : List Nat) (σ : Nat → Value) : Prop := ∀ k ∈ S, ∃ s : ByteArray, σ k = .string s ∧ σ (k + 1000) = .int .i64 s.size
def cmpI (op : BinOp) (i : Info) (c : Int) : Option Bool :=
  match op with
  | .lss => if i.hi < c then some true else if c ≤ i.lo then some false else none
  | .leq => if i.hi ≤ c then some true else if c < i.lo then some false else none
  | .gtr => if c < i.lo then some true else if i.hi ≤ c then some false else none
  | .geq => if c ≤ i.lo then some true else if i.hi < c then some false else none
  | .eql => if i.lo = c ∧ i.hi = c then some true else if c < i.lo ∨ i.hi < c ∨ i.ne.contains c then some false else none
  | .neq => if i.lo = c ∧ i.hi = c then some false else if c < i.lo ∨ i.hi < c ∨ i.ne.contains c then some true else none
  | _ => none
theorem cmpI_run {P : Program} {op : BinOp} {i : Info} {c n : Int} {b : Bool} (h : cmpI op i c = some b) (hn : i.has n) (t : TypeId) (x y : Operand) (w : World) :
    ((do eqGuard op t x y (.int .i64 n) (.int .i64 c); binOp op t (.int .i64 n) (.int .i64 c)) : Sem Value).run P w = .ok (.bool b) w := by
  obtain ⟨h1, h2, h3⟩ := hn
  unfold cmpI at h
  split at h
  case h_7 => cases h
  all_goals
    split at h
    · rename_i hc
      injection h with h; subst h
      simp [eqGuard, binOp, Op.intCmp]
      omega
    · split at h
      · rename_i hc1 hc2
        injection h with h; subst h
        simp [eqGuard, binOp, Op.intCmp]
        first
          | omega
          | (intro e; subst e
             rcases hc2 with q | q | q
             · omega
             · omega
             · exact h3 (by simpa using q))
      · cases h
/-- the other way round -/
def flipB : BinOp → Option BinOp
  | .lss => some .gtr
  | .leq => some .geq
  | .gtr => some .lss
  | .geq => some .leq
  | .eql => some .eql
  | .neq => some .neq
  | _ => none
theorem flipB_run {P : Program} {op op' : BinOp} (h : flipB op = some op') (c n : Int) (t : TypeId) (x y : Operand) (w : World) {r : Result Value}
    (e : ((do eqGuard op' t x y (.int .i64 n) (.int .i64 c); binOp op' t (.int .i64 n) (.int .i64 c)) : Sem Value).run P w = r) :
    ((do eqGuard op t x y (.int .i64 c) (.int .i64 n); binOp op t (.int .i64 c) (.int .i64 n)) : Sem Value).run P w = r := by
  rw [← e]
  unfold flipB at h
  split at h <;> first
    | cases h; done
    | (injection h with h; subst h
       simp [eqGuard, binOp, Op.intCmp]
       try simp only [bne]
       try rw [show (c == n) = (n == c) from by rw [Bool.eq_iff_iff, beq_iff_eq, beq_iff_eq]; exact eq_comm])
/-- a symbol of which the number is known, as that number -/
def pin (K : KB) : Value → Value
  | .chan (some k) => match K.find k with
    | some i => if i.lo = i.hi then .int .i64 i.lo else .chan (some k)
    | none => .chan (some k)
  | v => v
theorem pin_ren {K : KB} {r : Ren} (h : KOK K r.σ) (v : Value) : ren r (pin K v) = ren r v := by
  unfold pin
  split
  case h_2 => rfl
  case h_1 k =>
    split
    case h_2 => rfl
    case h_1 i hi =>
      split
      case isFalse => rfl
      case isTrue he =>
        obtain ⟨n, h1, h2, h3, h4⟩ := h k i hi
        rw [ren_sym, h1]
        simp only [ren]
        congr 1; omega
/-- two cells: are they one? -/
def cellEq (S : List Nat) (K : KB) (x y : Value) : Option Bool :=
  match pin K x, pin K y with
  | .chan (some a), .chan (some b) => if a = b ∧ (S.contains a || (K.find a).isSome) then some true else none
  | .chan (some a), .int .i64 c => (K.find a).bind fun i => cmpI .eql i c
  | .int .i64 c, .chan (some a) => (K.find a).bind fun i => cmpI .eql i c
  | .chan (some a), .string s => if S.contains a && s.size == 0 then (K.find (a + 1000)).bind fun i => cmpI .eql i 0 else none
  | .string s, .chan (some a) => if S.contains a && s.size == 0 then (K.find (a + 1000)).bind fun i => cmpI .eql i 0 else none
  | .int j a, .int k b => if j = k then some (a == b) else none
  | .string a, .string b => some (a == b)
  | .bool a, .bool b => some (a == b)
  | _, _ => none
/-- what '==' says of two cells of one kind -/
def cellB : Value → Value → Bool
  | .int _ a, .int _ b => a == b
  | .string a, .string b => a.toList == b.toList
  | .bool a, .bool b => a == b
  | _, _ => false
theorem cmpI_eql {i : Info} {c n : Int} {b : Bool} (h : cmpI .eql i c = some b) (hn : i.has n) : (n == c) = b := by
  obtain ⟨h1, h2, h3⟩ := hn
  unfold cmpI at h
  dsimp only at h
  split at h
  · rename_i hc; injection h with h; subst h; simp; omega
  · split at h
    · rename_i _ hc; injection h with h; subst h
      simp
      intro e; subst e
      rcases hc with q | q | q
      · omega
      · omega
      · exact h3 (by simpa using q)
    · cases h
theorem size_zero {s : ByteArray} (h : s.size = 0) : s = ByteArray.empty := by
  cases s with
  | mk d => simp [ByteArray.size] at h; subst h; rfl
theorem strEq_empty {s t : ByteArray} (ht : t.size = 0) : (s.toList == t.toList) = ((s.size : Int) == 0) := by
  have := size_zero ht
  subst this
  by_cases h : s.size = 0
  · have := size_zero h; subst this; simp
  · rw [beq_eq_false_iff_ne.2 (by omega : ((s.size : Int)) ≠ 0)]
    rw [beq_eq_false_iff_ne]
    intro e
    apply h
    have h1 : s.toList.length = s.size := by rw [ByteArray.toList_eq, Array.length_toList]; rfl
    rw [← h1, e, ByteArray.toList_eq]; rfl
theorem beq_comm' {a b : List UInt8} : (a == b) = (b == a) := by
  rw [Bool.eq_iff_iff, beq_iff_eq, beq_iff_eq]; exact eq_comm
theorem cellEq_ok {S : List Nat} {K : KB} {r : Ren} (hK : KOK K r.σ) (hS : SOK S r.σ) {x y : Value} {b : Bool} (h : cellEq S K x y = some b) : cellB (ren r x) (ren r y) = b := by
  rw [← pin_ren hK x, ← pin_ren hK y]
  unfold cellEq at h
  split at h
  · rename_i a b' e1 e2
    rw [e1, e2]
    split at h
    · rename_i hab
      injection h with h; subst h
      obtain ⟨rfl, hab⟩ := hab
      rw [ren_sym]
      rw [Bool.or_eq_true] at hab
      rcases hab with hab | hab
      · obtain ⟨s, h1, h2⟩ := hS a (by simpa using hab)
        rw [h1]; simp [cellB]
      · obtain ⟨i, hi⟩ := Option.isSome_iff_exists.1 hab
        obtain ⟨n, h1, h2⟩ := hK a i hi
        rw [h1]; simp [cellB]
    · cases h
  · rename_i a c e1 e2
    rw [e1, e2, ren_sym]
    cases hi : K.find a with
    | none => rw [hi] at h; cases h
    | some i =>
      rw [hi] at h
      obtain ⟨n, h1, h2⟩ := hK a i hi
      rw [h1]
      simpa [cellB, ren] using cmpI_eql h h2
  · rename_i c a e1 e2
    rw [e1, e2, ren_sym]
    cases hi : K.find a with
    | none => rw [hi] at h; cases h
    | some i =>
      rw [hi] at h
      obtain ⟨n, h1, h2⟩ := hK a i hi
      rw [h1]
      have := cmpI_eql h h2
      simp only [cellB, ren]
      rw [← this, Bool.eq_iff_iff, beq_iff_eq, beq_iff_eq]; exact eq_comm
  · rename_i a s e1 e2
    rw [e1, e2, ren_sym]
    split at h
    · rename_i hc
      rw [Bool.and_eq_true] at hc
      obtain ⟨t, h1, h2⟩ := hS a (by simpa using hc.1)
      cases hi : K.find (a + 1000) with
      | none => rw [hi] at h; cases h
      | some i =>
        rw [hi] at h
        obtain ⟨n, h3, h4⟩ := hK _ i hi
        rw [h2] at h3
        injection h3 with _ h3
        subst h3
        rw [h1]
        simp only [cellB, ren]
        rw [strEq_empty (by simpa using hc.2)]
        exact cmpI_eql h h4
    · cases h
  · rename_i s a e1 e2
    rw [e1, e2, ren_sym]
    split at h
    · rename_i hc
      rw [Bool.and_eq_true] at hc
      obtain ⟨t, h1, h2⟩ := hS a (by simpa using hc.1)
      cases hi : K.find (a + 1000) with
      | none => rw [hi] at h; cases h
      | some i =>
        rw [hi] at h
        obtain ⟨n, h3, h4⟩ := hK _ i hi
        rw [h2] at h3
        injection h3 with _ h3
        subst h3
        rw [h1]
        simp only [cellB, ren]
        rw [beq_comm', strEq_empty (by simpa using hc.2)]
        exact cmpI_eql h h4
    · cases h
  · rename_i j a k b' e1 e2
    rw [e1, e2]
    split at h
    · injection h with h; subst h; simp [cellB, ren]
    · cases h
  · rename_i a b' e1 e2
    rw [e1, e2]; injection h with h; subst h; simp only [cellB, ren]; rw [beq_toListBytes]
  · rename_i a b' e1 e2
    rw [e1, e2]; injection h with h; subst h; simp [cellB, ren]
  · cases h
/-- all cells -/
def cellsEq (S : List Nat) (K : KB) : List Value → List Value → Option Bool
  | [], [] => some true
  | x :: r, y :: q => match cellEq S K x y with
    | some true => cellsEq S K r q
    | some false => some false
    | none => none
  | _, _ => none
def cellsB : List Value → List Value → Bool
  | [], [] => true
  | x :: r, y :: q => cellB x y && cellsB r q
  | _, _ => false
theorem cellsEq_ok {S : List Nat} {K : KB} {r : Ren} (hK : KOK K r.σ) (hS : SOK S r.σ) : ∀ {xs ys : List Value} {b : Bool}, cellsEq S K xs ys = some b → cellsB (xs.map (ren r)) (ys.map (ren r)) = b
  | [], [], b, h => by simp [cellsEq] at h; subst h; rfl
  | x :: r', y :: q, b, h => by
    unfold cellsEq at h
    simp only [List.map_cons, cellsB]
    split at h
    · rename_i hc
      rw [cellEq_ok hK hS hc, cellsEq_ok hK hS h]; simp
    · rename_i hc
      injection h with h; subst h
      rw [cellEq_ok hK hS hc]; simp
    · cases h
  | [], _ :: _, b, h => by cases h
  | _ :: _, [], b, h => by cases h
/-- kinds of cells -/
inductive CK
  | i | s | b
  deriving DecidableEq
def CK.is : CK → Value → Prop
  | .i, v => ∃ n, v = .int .i64 n
  | .s, v => ∃ x, v = .string x
  | .b, v => ∃ x, v = .bool x
/-- of the cells that stand there: may they be of these kinds? -/
def ckOf (S : List Nat) (K : KB) : CK → Value → Bool
  | .i, .int .i64 _ => true
  | .i, .chan (some k) => (K.find k).isSome
  | .s, .string _ => true
  | .s, .chan (some k) => S.contains k
  | .b, .bool _ => true
  | _, _ => false
theorem ckOf_ok {S : List Nat} {K : KB} {r : Ren} (hK : KOK K r.σ) (hS : SOK S r.σ) {c : CK} {v : Value} (h : ckOf S K c v = true) : c.is (ren r v) := by
  unfold ckOf at h
  split at h
  · exact ⟨_, by simp [ren]; rfl⟩
  · obtain ⟨i, hi⟩ := Option.isSome_iff_exists.1 h
    obtain ⟨n, h1, _⟩ := hK _ i hi
    exact ⟨n, by rw [ren_sym]; exact h1⟩
  · exact ⟨_, by simp [ren]; rfl⟩
  · obtain ⟨s, h1, _⟩ := hS _ (by simpa using h)
    exact ⟨s, by rw [ren_sym]; exact h1⟩
  · exact ⟨_, by simp [ren]; rfl⟩
  · cases h
def cksOf (S : List Nat) (K : KB) : List CK → List Value → Bool
  | [], [] => true
  | c :: r, v :: q => ckOf S K c v && cksOf S K r q
  | _, _ => false
inductive CKs : List CK → List Value → Prop
  | nil : CKs [] []
  | cons {c : CK} {v : Value} {r : List CK} {q : List Value} : c.is v → CKs r q → CKs (c :: r) (v :: q)
theorem cksOf_ok {S : List Nat} {K : KB} {r : Ren} (hK : KOK K r.σ) (hS : SOK S r.σ) : ∀ {cs : List CK} {vs : List Value}, cksOf S K cs vs = true → CKs cs (vs.map (ren r))
  | [], [], _ => .nil
  | c :: cs, v :: vs, h => by
    simp only [cksOf, Bool.and_eq_true] at h
    exact .cons (ckOf_ok hK hS h.1) (cksOf_ok hK hS h.2)
  | [], _ :: _, h => by cases h
  | _ :: _, [], h => by cases h
/-- types of structs whose '==' is that of their cells -/
abbrev ET := List (TypeId × List CK)
def EqOK (P : Program) (E : ET) : Prop := ∀ p ∈ E, ∀ (xs ys : Array Value), CKs p.2 xs.toList → CKs p.2 ys.toList → ∀ (x y : Operand) (w : World),
  ((do eqGuard .eql p.1 x y (.agg xs) (.agg ys); binOp .eql p.1 (.agg xs) (.agg ys)) : Sem Value).run P w = .ok (.bool (cellsB xs.toList ys.toList)) w ∧
  ((do eqGuard .neq p.1 x y (.agg xs) (.agg ys); binOp .neq p.1 (.agg xs) (.agg ys)) : Sem Value).run P w = .ok (.bool (!cellsB xs.toList ys.toList)) w
/-- what a call of a function of no argument leaves, known beforehand; what is known of lengths, numbers -/
def kAsk (P : Program) (S : List Nat) (E : ET) (K : KB) : OrcF := fun ev o =>
  match o.op with
  | .call c => (match c.callee, c.args.toList, c.argTypes.toList with
    | .builtin .len, [x], [t] => (match ev x, P.underlying t with
      | .chan (some k), some .string => if S.contains k then some (pin K (.chan (some (k + 1000)))) else none
      | _, _ => none)
    | _, _, _ => none)
  | .binOp op t x y _ => (match aPure P (fun z => pin K (ev z)) o with
    | some v => some v
    | none => match op, ev x, ev y with
      | .eql, .agg xs, .agg ys => (match E.find? (·.1 == t) with
        | some p => if cksOf S K p.2 xs.toList && cksOf S K p.2 ys.toList then (cellsEq S K xs.toList ys.toList).map .bool else none
        | none => none)
      | .neq, .agg xs, .agg ys => (match E.find? (·.1 == t) with
        | some p => if cksOf S K p.2 xs.toList && cksOf S K p.2 ys.toList then (cellsEq S K xs.toList ys.toList).map fun b => .bool (!b) else none
        | none => none)
      | op, .chan (some k), .int .i64 c => ((K.find k).bind fun i => cmpI op i c).map .bool
      | op, .int .i64 c, .chan (some k) => ((K.find k).bind fun i => (flipB op).bind fun op' => cmpI op' i c).map .bool
      | _, _, _ => none)
  | _ => aPure P (fun z => pin K (ev z)) o

theorem aPure_pin {P : Program} {K : KB} {ev : Operand → Value} {o : Oper} {v : Value} (h : aPure P (fun z => pin K (ev z)) o = some v) {r : Ren} (hK : KOK K r.σ) (hs : SymOk r) (w : World) :
    (execOp (fun x => ren r (ev x)) o).run P w = .ok (.value (ren r v)) w := by
  have h1 := aPure_ok h r hs w
  rw [execOp_congr (ρ := fun x => ren r (ev x)) (ρ' := fun x => ren r (pin K (ev x))) o (noSel_ne (aPure_noSel h)) (fun x _ => (pin_ren hK _).symm)]
  exact h1
theorem kAsk_ok {P : Program} {S : List Nat} {E : ET} {K : KB} {σ : Nat → Value} (hE : EqOK P E) (hK : KOK K σ) (hS : SOK S σ) : AskOK P (· = σ) (kAsk P S E K) := by
  intro ev o v he
  unfold kAsk at he
  split at he
  case h_3 o' _ _ => exact ⟨aPure_noSel he, fun r hr hs w => aPure_pin he (by rw [hr]; exact hK) hs w⟩
  case h_1 c ho =>
    split at he
    case h_2 => cases he
    case h_1 x t hc ha ht =>
      refine ⟨by rw [ho]; rfl, fun r hr _ w => ?_⟩
      have e1 : c.args = #[x] := by apply Array.ext'; simpa using ha
      have e2 : c.argTypes = #[t] := by apply Array.ext'; simpa using ht
      split at he
      case h_2 => cases he
      case h_1 k hx hu =>
        split at he
        case isFalse => cases he
        case isTrue hT =>
          injection he with he; subst he
          obtain ⟨s, g4, g5⟩ := hS k (by simpa using hT)
          rw [pin_ren (by rw [hr]; exact hK), ren_sym, hr, g5]
          unfold execOp
          simp [ho, resolve, hc, e1, e2, invoke, builtin, Builtin.len_, hx, ren_sym, hr, g4, run_underlying hu w, goInt]
  case h_2 op t x y yt ho =>
    split at he
    case h_1 v' hp =>
      injection he with he; subst he
      exact ⟨by rw [ho]; rfl, fun r hr hs w => aPure_pin hp (by rw [hr]; exact hK) hs w⟩
    case h_2 hp =>
      refine ⟨by rw [ho]; rfl, fun r hr hs w => ?_⟩
      have hK' : KOK K r.σ := by rw [hr]; exact hK
      have hS' : SOK S r.σ := by rw [hr]; exact hS
      split at he
      case h_1 xs ys hx hy =>
        split at he
        case h_2 => cases he
        case h_1 p hf =>
          split at he
          case isFalse => cases he
          case isTrue hck =>
            rw [Bool.and_eq_true] at hck
            cases hce : cellsEq S K xs.toList ys.toList with
            | none => rw [hce] at he; cases he
            | some b =>
              rw [hce] at he
              simp only [Option.map_some, Option.some.injEq] at he
              subst he
              have hpt : p.1 = t := by simpa using List.find?_some hf
              have := (hE p (List.mem_of_find?_eq_some hf) (xs.map fun v => ren r v) (ys.map fun v => ren r v) (by rw [Array.toList_map]; exact cksOf_ok hK' hS' hck.1) (by rw [Array.toList_map]; exact cksOf_ok hK' hS' hck.2) x y w).1
              rw [Array.toList_map, Array.toList_map, cellsEq_ok hK' hS' hce, hpt] at this
              unfold execOp
              simp only [ho, hx, hy, ren_agg, ren_bool]
              rw [Sem.run_bind, this]; rfl
      case h_2 xs ys hx hy =>
        split at he
        case h_2 => cases he
        case h_1 p hf =>
          split at he
          case isFalse => cases he
          case isTrue hck =>
            rw [Bool.and_eq_true] at hck
            cases hce : cellsEq S K xs.toList ys.toList with
            | none => rw [hce] at he; cases he
            | some b =>
              rw [hce] at he
              simp only [Option.map_some, Option.some.injEq] at he
              subst he
              have hpt : p.1 = t := by simpa using List.find?_some hf
              have := (hE p (List.mem_of_find?_eq_some hf) (xs.map fun v => ren r v) (ys.map fun v => ren r v) (by rw [Array.toList_map]; exact cksOf_ok hK' hS' hck.1) (by rw [Array.toList_map]; exact cksOf_ok hK' hS' hck.2) x y w).2
              rw [Array.toList_map, Array.toList_map, cellsEq_ok hK' hS' hce, hpt] at this
              unfold execOp
              simp only [ho, hx, hy, ren_agg, ren_bool]
              rw [Sem.run_bind, this]; rfl
      case h_3 =>
        rename_i op1 op2 vx vy k c hx hy
        cases hi : K.find k with
        | none => rw [hi] at he; cases he
        | some i =>
          rw [hi] at he
          cases hcm : cmpI op1 i c with
          | none => simp [hcm] at he
          | some b =>
            simp only [Option.bind_some, hcm, Option.map_some, Option.some.injEq] at he
            subst he
            obtain ⟨n, g1, g2⟩ := hK' k i hi
            have := cmpI_run (P := P) hcm g2 t x y w
            unfold execOp
            simp only [ho, hx, hy, ren_sym, g1, ren_int, ren_bool]
            rw [Sem.run_bind, this]; rfl
      case h_4 =>
        rename_i op1 op2 vx vy c k hx hy
        cases hi : K.find k with
        | none => rw [hi] at he; cases he
        | some i =>
          rw [hi] at he
          cases hfl : flipB op1 with
          | none => simp [hfl] at he
          | some op' =>
            cases hcm : cmpI op' i c with
            | none => simp [hfl, hcm] at he
            | some b =>
              simp only [Option.bind_some, hfl, hcm, Option.map_some, Option.some.injEq] at he
              subst he
              obtain ⟨n, g1, g2⟩ := hK' k i hi
              have := flipB_run hfl c n t x y w (cmpI_run (P := P) hcm g2 t x y w)
              unfold execOp
              simp only [ho, hx, hy, ren_sym, g1, ren_int, ren_bool]
              rw [Sem.run_bind, this]; rfl
      case h_5 => cases he

def kOrc (P : Program) (S : List Nat) (E : ET) (K : KB) : Orc := ⟨kAsk P S E K, [], fun _ => none⟩
theorem kOrc_ok {P : Program} {S : List Nat} {E : ET} {K : KB} {σ : Nat → Value} (hE : EqOK P E) (hK : KOK K σ) (hS : SOK S σ) : OrcOK P (· = σ) (kOrc P S E K) := ⟨kAsk_ok hE hK hS, (fun g hg => nomatch hg), fun _ _ h => nomatch h⟩
/-- a tree of questions: is a number below c (less), is it c? -/
inductive DT
  | leaf
  | less (k : Nat) (c : Int) (yes no : DT)
  | same (k : Nat) (c : Int) (yes no : DT)
def Info.below (i : Info) (c : Int) : Info := { i with hi := min i.hi (c - 1) }
def Info.from (i : Info) (c : Int) : Info := { i with lo := max i.lo c }
def Info.eq (i : Info) (c : Int) : Info := { i with lo := c, hi := c }
def Info.not (i : Info) (c : Int) : Info := if i.lo = c then { i with lo := c + 1 } else if i.hi = c then { i with hi := c - 1 } else { i with ne := c :: i.ne }
def Info.dead (i : Info) : Bool := decide (i.hi < i.lo)
def KB.dead (K : KB) : Bool := K.any fun p => p.2.dead
def DT.check (ok : KB → Bool) : DT → KB → Bool
  | .leaf, K => ok K
  | .less k c y n, K => match K.find k with
    | some i => ((i.below c).dead || y.check ok (K.put k (i.below c))) && ((i.from c).dead || n.check ok (K.put k (i.from c)))
    | none => false
  | .same k c y n, K => match K.find k with
    | some i => (decide (c < i.lo ∨ i.hi < c) || y.check ok (K.put k (i.eq c))) && ((i.not c).dead || n.check ok (K.put k (i.not c)))
    | none => false
theorem KB.find_put : ∀ {K : KB} {k j : Nat} {i x : Info}, (K.put k i).find j = some x → (j = k ∧ x = i) ∨ (j ≠ k ∧ K.find j = some x)
  | [], k, j, i, x, h => by cases h
  | p :: r, k, j, i, x, h => by
    unfold KB.put at h
    split at h
    · rename_i hp
      unfold KB.find at h ⊢
      dsimp only at h
      by_cases hj : k = j
      · rw [if_pos hj] at h; injection h with h; exact .inl ⟨hj.symm, h.symm⟩
      · rw [if_neg hj] at h; exact .inr ⟨fun e => hj e.symm, by rw [if_neg (by rw [hp]; exact hj)]; exact h⟩
    · rename_i hp
      unfold KB.find at h ⊢
      by_cases hj : p.1 = j
      · rw [if_pos hj] at h ⊢; exact .inr ⟨fun e => hp (by rw [hj, e]), h⟩
      · rw [if_neg hj] at h ⊢; exact KB.find_put h
theorem KOK.put {K : KB} {σ : Nat → Value} (h : KOK K σ) {k : Nat} {i : Info} (hk : ∃ n : Int, σ k = .int .i64 n ∧ i.has n) : KOK (K.put k i) σ := by
  intro j x hj
  rcases KB.find_put hj with ⟨rfl, rfl⟩ | ⟨_, h2⟩
  · exact hk
  · exact h j x h2
theorem DT.sound {ok : KB → Bool} {σ : Nat → Value} : ∀ (t : DT) (K : KB), t.check ok K = true → KOK K σ → ∃ K', KOK K' σ ∧ ok K' = true
  | .leaf, K, h, hK => ⟨K, hK, h⟩
  | .less k c y n, K, h, hK => by
    unfold DT.check at h
    split at h
    case h_2 => cases h
    case h_1 i hi =>
      rw [Bool.and_eq_true, Bool.or_eq_true, Bool.or_eq_true] at h
      obtain ⟨v, h1, h2, h3, h4⟩ := hK k i hi
      by_cases hv : v < c
      · have hb : (i.below c).has v := ⟨h2, by unfold Info.below; dsimp only; omega, h4⟩
        rcases h.1 with hd | hy
        · exfalso; unfold Info.dead at hd; simp at hd; have := hb.1; have := hb.2.1; omega
        · exact DT.sound y _ hy (hK.put ⟨v, h1, hb⟩)
      · have hb : (i.from c).has v := ⟨by unfold Info.from; dsimp only; omega, h3, h4⟩
        rcases h.2 with hd | hy
        · exfalso; unfold Info.dead at hd; simp at hd; have := hb.1; have := hb.2.1; omega
        · exact DT.sound n _ hy (hK.put ⟨v, h1, hb⟩)
  | .same k c y n, K, h, hK => by
    unfold DT.check at h
    split at h
    case h_2 => cases h
    case h_1 i hi =>
      rw [Bool.and_eq_true, Bool.or_eq_true, Bool.or_eq_true] at h
      obtain ⟨v, h1, h2, h3, h4⟩ := hK k i hi
      by_cases hv : v = c
      · subst hv
        have hb : (i.eq v).has v := ⟨Int.le_refl _, Int.le_refl _, h4⟩
        rcases h.1 with hd | hy
        · exfalso; simp at hd; omega
        · exact DT.sound y _ hy (hK.put ⟨v, h1, hb⟩)
      · have hb : (i.not c).has v := by
          unfold Info.not
          split
          · exact ⟨by dsimp only; omega, h3, h4⟩
          · split
            · exact ⟨h2, by dsimp only; omega, h4⟩
            · exact ⟨h2, h3, by simp [hv, h4]⟩
        rcases h.2 with hd | hy
        · exfalso; unfold Info.dead at hd; simp at hd; have := hb.1; have := hb.2.1; omega
        · exact DT.sound n _ hy (hK.put ⟨v, h1, hb⟩)
/-- functions of no argument of which it is known what they leave -/
abbrev KN := List (FuncId × Value)
def KN.find : KN → FuncId → Option Value
  | [], _ => none
  | p :: r, f => if p.1 = f then some p.2 else KN.find r f
def KnOK (P : Program) (kn : KN) : Prop := ∀ (f : FuncId) (v : Value), kn.find f = some v → shut v = true ∧ ∀ w : World, Calls P f #[] w fun e w' => e = .returned v ∧ RowKit.Below w.heap.size w w'
def aCallK (P : Program) (kn : KN) (orc : Orc) (fuel : Nat) : Nat → FuncId → Array Value → AM Value
  | 0, _, _ => .fail
  | n + 1, f, args => match kn.find f with
    | some v => if args.size = 0 then .pure v else .fail
    | none => aFn P orc fuel (aCallK P kn orc fuel n) f args
theorem aCallK_sound {P : Program} (hm : P.follows .mixedOrders = true) (hn : NameOK P) {kn : KN} (hk : KnOK P kn) {SQ : (Nat → Value) → Prop} {orc : Orc} (ho : OrcOK P SQ orc) (fuel : Nat) : ∀ n, CallOK P SQ (aCallK P kn orc fuel n)
  | 0 => fun f args args' N ρ _ _ h v h' he => by cases he
  | n + 1 => by
    have ih := aFn_sound hm hn ho fuel (aCallK_sound hm hn hk ho fuel n)
    intro f args args' N ρ hsq ha h v h' he D w hcov hwf hN hr
    unfold aCallK at he
    cases hf : kn.find f with
    | none => rw [hf] at he; exact ih f args args' N ρ hsq ha h v h' he D w hcov hwf hN hr
    | some u =>
      rw [hf] at he
      dsimp only at he
      split at he
      case isFalse => cases he
      case isTrue hsz =>
        obtain ⟨rfl, rfl⟩ := AM.pure_some he
        obtain ⟨h1, h2⟩ := hk f v hf
        have h0 : args' = #[] := by
          apply Array.ext'
          apply List.eq_nil_of_length_eq_zero
          rw [ha.length, Array.length_toList, hsz]
        subst h0
        refine (h2 w).mono ?_
        rintro e w' ⟨rfl, hb⟩
        refine ⟨ρ, v, rfl, ⟨Agree.refl _ _, fun n hn => absurd hn.1 (by have := hn.2; omega), hb.os, hb.tape, hb.output, hb.size, fun k hk _ => hb.block k hk⟩, ?_, VR.shut h1⟩
        rw [Grow.eq_self]
        exact ⟨hr.inj, fun n o hD ho => (hr.holds n o hD ho).mono (Agree.refl _ _) (fun _ h => h) (hr.known n hD (by rw [ho]; rfl)) (hb.block _ (hr.holds n o hD ho).lt), hr.known, hr.sym, hr.glob⟩
theorem Calls.of_evalK {P : Program} (hm : P.follows .mixedOrders = true) (hn : NameOK P) {kn : KN} (hk : KnOK P kn) {orc : Orc} {σ : Nat → Value} (hσ : ∀ k, (σ k).oneCell' = true) (ho : OrcOK P (· = σ) orc) {fuel n : Nat} {f : FuncId} {args args' : Array Value}
    (ha : ∀ r : Ren, r.σ = σ → args.map (ren r) = args') {v : Value}
    (he : ((aCallK P kn orc fuel n f args).run ⟨.lf, 0, 0, [], []⟩).map (·.1) = some v) (hv : shut v = true) (w : World) (hg : ∀ g, σ (gsym g) ≠ .nilFunc := by first | exact fun g => symF_glob rfl g | (intro g h; cases h; done)) : Calls P f args' w fun e w' => e = .returned v ∧ RowKit.Below w.heap.size w w' := by
  have h0 : ∀ n, (⟨.lf, 0, 0, [], []⟩ : AH).get n = none := fun n => Tr.get_lf n
  cases hrun : (aCallK P kn orc fuel n f args).run ⟨.lf, 0, 0, [], []⟩ with
  | none => rw [hrun] at he; cases he
  | some p =>
    obtain ⟨v0, h'⟩ := p
    rw [hrun] at he
    simp only [Option.map_some, Option.some.injEq] at he
    subst he
    refine (aCallK_sound hm hn hk ho fuel n f args args' (fun _ => False) ⟨fun _ => 0, fun _ => 0, σ⟩ rfl (fun r hr => by rw [← ha r hr.σ, Array.toList_map]) _ v0 h' hrun (fun _ => True) w ⟨fun _ _ => trivial, fun _ _ => trivial⟩ (fun n _ => h0 n) (fun _ _ h => h)
      (by
        refine ⟨?_, ?_, ?_, hσ, fun g h => absurd h (hg g)⟩
        · intro n m _ _ hs; rw [h0] at hs; cases hs
        · intro n o _ ho; rw [h0] at ho; cases ho
        · intro n _ hs; rw [h0] at hs; cases hs)).mono ?_
    rintro e w' ⟨ρ', v', rfl, hs, hr, hvv⟩
    have hv' : v' = v0 := by rw [← hvv.eq]; exact ren_shut _ hv
    subst hv'
    exact ⟨rfl, hs.os, hs.tape, hs.output, hs.size, fun k hk => hs.frame k hk (fun m _ _ hsome => by rw [h0] at hsome; cases hsome)⟩
/-- it returns true -/
def okK (P : Program) (kn : KN) (S : List Nat) (E : ET) (fuel n : Nat) (f : FuncId) (args : Array Value) (K : KB) : Bool :=
  match (aCallK P kn (kOrc P S E K) fuel n f args).run ⟨.lf, 0, 0, [], []⟩ with
  | some (.bool true, _) => true
  | _ => false
theorem Calls.of_tree {P : Program} (hm : P.follows .mixedOrders = true) (hn : NameOK P) {kn : KN} (hk : KnOK P kn) {S : List Nat} {E : ET} {K : KB} {σ : Nat → Value} (hσ : ∀ k, (σ k).oneCell' = true) (hE : EqOK P E) (hK : KOK K σ) (hS : SOK S σ) {fuel n : Nat} {f : FuncId} {args args' : Array Value}
    (ha : ∀ r : Ren, r.σ = σ → args.map (ren r) = args') {t : DT} (ht : t.check (okK P kn S E fuel n f args) K = true) (w : World) (hg : ∀ g, σ (gsym g) ≠ .nilFunc := by first | exact fun g => symF_glob rfl g | (intro g h; cases h; done)) : Calls P f args' w fun e w' => e = .returned (.bool true) ∧ RowKit.Below w.heap.size w w' := by
  obtain ⟨K', h1, h2⟩ := DT.sound t K ht hK
  unfold okK at h2
  split at h2
  case h_2 => cases h2
  case h_1 h' he => exact Calls.of_evalK hm hn hk hσ (kOrc_ok hE h1 hS) ha (by rw [he]; rfl) rfl w hg
theorem EqOK.nil (P : Program) : EqOK P [] := fun p hp => by cases hp
end Go.Proofs.Ytfakfnekcgkelaa
/- An evaluator of Go code whose memory has names of its own (20): numbers made of symbols are symbols again. -/
namespace Go.Proofs.Ytfakfnekcgkelaa
set_option linter.unusedVariables false
set_option linter.unusedSimpArgs false

/-- (operation, symbol, number, the symbol of what comes out) -/
abbrev Der := List (BinOp × Nat × Int × Nat)
def derAsk (D : Der) : OrcF := fun ev o =>
  match o.op with
  | .binOp op _ x y _ => (match ev x, ev y with
    | .chan (some k), .int .i64 c => (D.find? fun p => decide (p.1 = op) && p.2.1 == k && p.2.2.1 == c).map fun p => .chan (some p.2.2.2)
    | _, _ => none)
  | _ => none
def DerOK (P : Program) (D : Der) (σ : Nat → Value) : Prop := ∀ p ∈ D, ∃ n : Int, σ p.2.1 = .int .i64 n ∧ ∀ (t : TypeId) (x y : Operand) (w : World),
  ((do eqGuard p.1 t x y (.int .i64 n) (.int .i64 p.2.2.1); binOp p.1 t (.int .i64 n) (.int .i64 p.2.2.1)) : Sem Value).run P w = .ok (σ p.2.2.2) w
theorem derAsk_ok {P : Program} {D : Der} {σ : Nat → Value} (h : DerOK P D σ) : AskOK P (· = σ) (derAsk D) := by
  intro ev o v he
  unfold derAsk at he
  split at he
  case h_2 => cases he
  case h_1 op t x y yt ho =>
    split at he
    case h_2 => cases he
    case h_1 k c hx hy =>
      cases hf : D.find? (fun p => decide (p.1 = op) && p.2.1 == k && p.2.2.1 == c) with
      | none => rw [hf] at he; cases he
      | some p =>
        rw [hf] at he
        simp only [Option.map_some, Option.some.injEq] at he
        subst he
        have hp := List.find?_some hf
        simp only [Bool.and_eq_true, beq_iff_eq, decide_eq_true_eq] at hp
        obtain ⟨⟨h1, h2⟩, h3⟩ := hp
        obtain ⟨n, g1, g2⟩ := h p (List.mem_of_find?_eq_some hf)
        refine ⟨by rw [ho]; rfl, fun r hr _ w => ?_⟩
        unfold execOp
        simp only [ho, hx, hy, ren_sym, hr, ren_int]
        rw [← h2, g1, ← h3, ← h1, Sem.run_bind, g2 t x y w]
        rfl
def derOrc (D : Der) : Orc := ⟨derAsk D, [], fun _ => none⟩
theorem derOrc_ok {P : Program} {D : Der} {σ : Nat → Value} (h : DerOK P D σ) : OrcOK P (· = σ) (derOrc D) := ⟨derAsk_ok h, (fun g hg => nomatch hg), fun _ _ h => nomatch h⟩
def orcOr (a b : Orc) : Orc := ⟨fun ev o => match a ev o with
  | some v => some v
  | none => b ev o, a.glob ++ b.glob, fun f => match a.hook f with
  | some m => some m
  | none => b.hook f⟩
theorem orcOr_ok {P : Program} {SQ : (Nat → Value) → Prop} {a b : Orc} (ha : OrcOK P SQ a) (hb : OrcOK P SQ b) : OrcOK P SQ (orcOr a b) := by
  refine ⟨fun ev o v he => ?_, fun g hg => (List.mem_append.1 hg).elim (ha.2.1 g) (hb.2.1 g), fun f m hm => ?_⟩
  · unfold orcOr at he
    dsimp only at he
    split at he
    · rename_i v' h'; injection he with he; subst he; exact ha.1 ev o v' h'
    · exact hb.1 ev o v he
  · unfold orcOr at hm
    dsimp only at hm
    split at hm
    · rename_i m' h'; injection hm with hm; subst hm; exact ha.2.2 f m' h'
    · exact hb.2.2 f m hm
def okKD (P : Program) (kn : KN) (D : Der) (S : List Nat) (E : ET) (fuel n : Nat) (f : FuncId) (args : Array Value) (K : KB) : Bool :=
  match (aCallK P kn (orcOr (kOrc P S E K) (derOrc D)) fuel n f args).run ⟨.lf, 0, 0, [], []⟩ with
  | some (.bool true, _) => true
  | _ => false
theorem Calls.of_treeD {P : Program} (hm : P.follows .mixedOrders = true) (hn : NameOK P) {kn : KN} (hk : KnOK P kn) {D : Der} {S : List Nat} {E : ET} {K : KB} {σ : Nat → Value} (hσ : ∀ k, (σ k).oneCell' = true) (hD : DerOK P D σ) (hE : EqOK P E) (hK : KOK K σ) (hS : SOK S σ) {fuel n : Nat} {f : FuncId} {args args' : Array Value}
    (ha : ∀ r : Ren, r.σ = σ → args.map (ren r) = args') {t : DT} (ht : t.check (okKD P kn D S E fuel n f args) K = true) (w : World) (hg : ∀ g, σ (gsym g) ≠ .nilFunc := by first | exact fun g => symF_glob rfl g | (intro g h; cases h; done)) : Calls P f args' w fun e w' => e = .returned (.bool true) ∧ RowKit.Below w.heap.size w w' := by
  obtain ⟨K', h1, h2⟩ := DT.sound t K ht hK
  unfold okKD at h2
  split at h2
  case h_2 => cases h2
  case h_1 h' he => exact Calls.of_evalK hm hn hk hσ (orcOr_ok (kOrc_ok hE h1 hS) (derOrc_ok hD)) ha (by rw [he]; rfl) rfl w hg
end Go.Proofs.Ytfakfnekcgkelaa
/- An evaluator of Go code whose memory has names of its own (21): a tree of questions, node by node. -/
namespace Go.Proofs.Ytfakfnekcgkelaa
theorem check_same {ok : KB → Bool} {K Ky Kn : KB} {k : Nat} {c : Int} {y n : DT} {i : Info} (hi : K.find k = some i) (ey : K.put k (i.eq c) = Ky) (en : K.put k (i.not c) = Kn)
    (hy : decide (c < i.lo ∨ i.hi < c) = true ∨ y.check ok Ky = true) (hn : (i.not c).dead = true ∨ n.check ok Kn = true) : (DT.same k c y n).check ok K = true := by
  subst ey; subst en
  unfold DT.check
  rw [hi]
  simp only [Bool.and_eq_true, Bool.or_eq_true]
  exact ⟨hy, hn⟩
theorem check_less {ok : KB → Bool} {K Ky Kn : KB} {k : Nat} {c : Int} {y n : DT} {i : Info} (hi : K.find k = some i) (ey : K.put k (i.below c) = Ky) (en : K.put k (i.from c) = Kn)
    (hy : (i.below c).dead = true ∨ y.check ok Ky = true) (hn : (i.from c).dead = true ∨ n.check ok Kn = true) : (DT.less k c y n).check ok K = true := by
  subst ey; subst en
  unfold DT.check
  rw [hi]
  simp only [Bool.and_eq_true, Bool.or_eq_true]
  exact ⟨hy, hn⟩
theorem check_leaf {ok : KB → Bool} {K : KB} (h : ok K = true) : DT.leaf.check ok K = true := h
end Go.Proofs.Ytfakfnekcgkelaa
/- An evaluator of Go code whose memory has names of its own (22): any oracle beside what is known of numbers; facts on two atoms. -/
namespace Go.Proofs.Ytfakfnekcgkelaa
set_option linter.unusedVariables false
set_option linter.unusedSimpArgs false

def okKX (P : Program) (kn : KN) (X : Orc) (S : List Nat) (E : ET) (fuel n : Nat) (f : FuncId) (args : Array Value) (K : KB) : Bool :=
  match (aCallK P kn (orcOr (kOrc P S E K) X) fuel n f args).run ⟨.lf, 0, 0, [], []⟩ with
  | some (.bool true, _) => true
  | _ => false
theorem Calls.of_treeX {P : Program} (hm : P.follows .mixedOrders = true) (hn : NameOK P) {kn : KN} (hk : KnOK P kn) {X : Orc} {S : List Nat} {E : ET} {K : KB} {σ : Nat → Value} (hσ : ∀ k, (σ k).oneCell' = true) (hX : OrcOK P (· = σ) X) (hE : EqOK P E) (hK : KOK K σ) (hS : SOK S σ) {fuel n : Nat} {f : FuncId} {args args' : Array Value}
    (ha : ∀ r : Ren, r.σ = σ → args.map (ren r) = args') {t : DT} (ht : t.check (okKX P kn X S E fuel n f args) K = true) (w : World) (hg : ∀ g, σ (gsym g) ≠ .nilFunc := by first | exact fun g => symF_glob rfl g | (intro g h; cases h; done)) : Calls P f args' w fun e w' => e = .returned (.bool true) ∧ RowKit.Below w.heap.size w w' := by
  obtain ⟨K', h1, h2⟩ := DT.sound t K ht hK
  unfold okKX at h2
  split at h2
  case h_2 => cases h2
  case h_1 h' he => exact Calls.of_evalK hm hn hk hσ (orcOr_ok (kOrc_ok hE h1 hS) hX) ha (by rw [he]; rfl) rfl w hg
/-- the same atom: a symbol, a text, a number -/
def sameA : Value → Value → Bool
  | .chan (some a), .chan (some b) => a == b
  | .string s, .string t => decide (s = t)
  | .int .i64 a, .int .i64 b => a == b
  | _, _ => false
/-- what an atom stands for -/
def atomOf (σ : Nat → Value) : Value → Value
  | .chan (some k) => σ k
  | v => v
theorem sameA_ren {x v : Value} (h : sameA x v = true) (r : Ren) : ren r v = atomOf r.σ x := by
  unfold sameA at h
  split at h
  · rename_i a b
    have : a = b := by simpa using h
    subst this
    rw [ren_sym]; rfl
  · rename_i a b
    have : a = b := by simpa using h
    subst this
    simp [ren, atomOf]
  · rename_i a b
    have : a = b := by simpa using h
    subst this
    simp [ren, atomOf]
  · cases h
/-- (operation, atom, atom, what comes out) -/
abbrev Fct := List (BinOp × Value × Value × Bool)
def fctAsk (F : Fct) : OrcF := fun ev o =>
  match o.op with
  | .binOp op _ x y _ => (F.find? fun p => decide (p.1 = op) && (sameA p.2.1 (ev x) && sameA p.2.2.1 (ev y))).map fun p => .bool p.2.2.2
  | _ => none
def FctOK (P : Program) (F : Fct) (σ : Nat → Value) : Prop := ∀ p ∈ F, ∀ (t : TypeId) (x y : Operand) (w : World),
  ((do eqGuard p.1 t x y (atomOf σ p.2.1) (atomOf σ p.2.2.1); binOp p.1 t (atomOf σ p.2.1) (atomOf σ p.2.2.1)) : Sem Value).run P w = .ok (.bool p.2.2.2) w
theorem fctAsk_ok {P : Program} {F : Fct} {σ : Nat → Value} (h : FctOK P F σ) : AskOK P (· = σ) (fctAsk F) := by
  intro ev o v he
  unfold fctAsk at he
  split at he
  case h_2 => cases he
  case h_1 op t x y yt ho =>
    cases hf : F.find? (fun p => decide (p.1 = op) && (sameA p.2.1 (ev x) && sameA p.2.2.1 (ev y))) with
    | none => rw [hf] at he; cases he
    | some p =>
      rw [hf] at he
      simp only [Option.map_some, Option.some.injEq] at he
      subst he
      have hp := List.find?_some hf
      simp only [Bool.and_eq_true, decide_eq_true_eq] at hp
      obtain ⟨h1, h2, h3⟩ := hp
      have g := h p (List.mem_of_find?_eq_some hf)
      refine ⟨by rw [ho]; rfl, fun r hr _ w => ?_⟩
      have e1 : ren r (ev x) = atomOf σ p.2.1 := by rw [sameA_ren h2, hr]
      have e2 : ren r (ev y) = atomOf σ p.2.2.1 := by rw [sameA_ren h3, hr]
      unfold execOp
      simp only [ho, e1, e2, ren_bool]
      rw [← h1, Sem.run_bind, g t x y w]
      rfl
def fctOrc (F : Fct) : Orc := ⟨fctAsk F, [], fun _ => none⟩
theorem fctOrc_ok {P : Program} {F : Fct} {σ : Nat → Value} (h : FctOK P F σ) : OrcOK P (· = σ) (fctOrc F) := ⟨fctAsk_ok h, (fun g hg => nomatch hg), fun _ _ h => nomatch h⟩
end Go.Proofs.Ytfakfnekcgkelaa
/- An evaluator of Go code whose memory has names of its own (22b): what operations on atoms come to, atoms again. -/
namespace Go.Proofs.Ytfakfnekcgkelaa
set_option linter.unusedVariables false
set_option linter.unusedSimpArgs false

/-- (operation, atom, atom, the atom that comes out) -/
abbrev Arc := List (BinOp × Value × Value × Value)
def arcAsk (F : Arc) : OrcF := fun ev o =>
  match o.op with
  | .binOp op _ x y _ => (F.find? fun p => decide (p.1 = op) && (sameA p.2.1 (ev x) && (sameA p.2.2.1 (ev y) && sameA p.2.2.2 p.2.2.2))).map fun p => p.2.2.2
  | _ => none
def ArcOK (P : Program) (F : Arc) (σ : Nat → Value) : Prop := ∀ p ∈ F, ∀ (t : TypeId) (x y : Operand) (w : World),
  ((do eqGuard p.1 t x y (atomOf σ p.2.1) (atomOf σ p.2.2.1); binOp p.1 t (atomOf σ p.2.1) (atomOf σ p.2.2.1)) : Sem Value).run P w = .ok (atomOf σ p.2.2.2) w
theorem arcAsk_ok {P : Program} {F : Arc} {σ : Nat → Value} (h : ArcOK P F σ) : AskOK P (· = σ) (arcAsk F) := by
  intro ev o v he
  unfold arcAsk at he
  split at he
  case h_2 => cases he
  case h_1 op t x y yt ho =>
    cases hf : F.find? (fun p => decide (p.1 = op) && (sameA p.2.1 (ev x) && (sameA p.2.2.1 (ev y) && sameA p.2.2.2 p.2.2.2))) with
    | none => rw [hf] at he; cases he
    | some p =>
      rw [hf] at he
      simp only [Option.map_some, Option.some.injEq] at he
      subst he
      have hp := List.find?_some hf
      simp only [Bool.and_eq_true, decide_eq_true_eq] at hp
      obtain ⟨h1, h2, h3, h4⟩ := hp
      have g := h p (List.mem_of_find?_eq_some hf)
      refine ⟨by rw [ho]; rfl, fun r hr _ w => ?_⟩
      have e1 : ren r (ev x) = atomOf σ p.2.1 := by rw [sameA_ren h2, hr]
      have e2 : ren r (ev y) = atomOf σ p.2.2.1 := by rw [sameA_ren h3, hr]
      have e3 : ren r p.2.2.2 = atomOf σ p.2.2.2 := by rw [sameA_ren h4, hr]
      unfold execOp
      simp only [ho, e1, e2, e3]
      rw [← h1, Sem.run_bind, g t x y w]
      rfl
def arcOrc (F : Arc) : Orc := ⟨arcAsk F, [], fun _ => none⟩
theorem arcOrc_ok {P : Program} {F : Arc} {σ : Nat → Value} (h : ArcOK P F σ) : OrcOK P (· = σ) (arcOrc F) := ⟨arcAsk_ok h, (fun g hg => nomatch hg), fun _ _ h => nomatch h⟩
/-- (min?, atom, atom, the atom that comes out) -/
abbrev Mnc := List (Bool × Value × Value × Value)
def mncAsk (F : Mnc) : OrcF := fun ev o =>
  match o.op with
  | .call c => (match c.callee, c.args.toList with
    | .builtin .min, [x, y] => (F.find? fun p => p.1 && (sameA p.2.1 (ev x) && (sameA p.2.2.1 (ev y) && sameA p.2.2.2 p.2.2.2))).map fun p => p.2.2.2
    | .builtin .max, [x, y] => (F.find? fun p => !p.1 && (sameA p.2.1 (ev x) && (sameA p.2.2.1 (ev y) && sameA p.2.2.2 p.2.2.2))).map fun p => p.2.2.2
    | _, _ => none)
  | _ => none
def MncOK (F : Mnc) (σ : Nat → Value) : Prop := ∀ p ∈ F, ∃ a b : Int, atomOf σ p.2.1 = .int .i64 a ∧ atomOf σ p.2.2.1 = .int .i64 b ∧ atomOf σ p.2.2.2 = .int .i64 (if p.1 = true then (if b < a then b else a) else (if a < b then b else a))
theorem mncAsk_ok {P : Program} {F : Mnc} {σ : Nat → Value} (h : MncOK F σ) : AskOK P (· = σ) (mncAsk F) := by
  intro ev o v he
  unfold mncAsk at he
  split at he
  case h_2 => cases he
  case h_1 c ho =>
    split at he
    case h_3 => cases he
    case h_1 x y hc ha =>
      cases hf : F.find? (fun p => p.1 && (sameA p.2.1 (ev x) && (sameA p.2.2.1 (ev y) && sameA p.2.2.2 p.2.2.2))) with
      | none => rw [hf] at he; cases he
      | some p =>
        rw [hf] at he
        simp only [Option.map_some, Option.some.injEq] at he
        subst he
        have hp := List.find?_some hf
        simp only [Bool.and_eq_true] at hp
        obtain ⟨h1, h2, h3, h4⟩ := hp
        obtain ⟨a, b, g1, g2, g3⟩ := h p (List.mem_of_find?_eq_some hf)
        refine ⟨by rw [ho]; rfl, fun r hr _ w => ?_⟩
        have e1 : ren r (ev x) = .int .i64 a := by rw [sameA_ren h2, hr, g1]
        have e2 : ren r (ev y) = .int .i64 b := by rw [sameA_ren h3, hr, g2]
        have e3 := (by rw [sameA_ren h4, hr] : ren r p.2.2.2 = atomOf σ p.2.2.2).trans g3
        have e4 : c.args = #[x, y] := by apply Array.ext'; simpa using ha
        rw [e3, h1]
        unfold execOp
        simp [ho, resolve, hc, e4, invoke, builtin, Builtin.min_, Builtin.min2, e1, e2]
    case h_2 x y hc ha =>
      cases hf : F.find? (fun p => !p.1 && (sameA p.2.1 (ev x) && (sameA p.2.2.1 (ev y) && sameA p.2.2.2 p.2.2.2))) with
      | none => rw [hf] at he; cases he
      | some p =>
        rw [hf] at he
        simp only [Option.map_some, Option.some.injEq] at he
        subst he
        have hp := List.find?_some hf
        simp only [Bool.and_eq_true] at hp
        obtain ⟨h1, h2, h3, h4⟩ := hp
        obtain ⟨a, b, g1, g2, g3⟩ := h p (List.mem_of_find?_eq_some hf)
        refine ⟨by rw [ho]; rfl, fun r hr _ w => ?_⟩
        have e1 : ren r (ev x) = .int .i64 a := by rw [sameA_ren h2, hr, g1]
        have e2 : ren r (ev y) = .int .i64 b := by rw [sameA_ren h3, hr, g2]
        have e3 := (by rw [sameA_ren h4, hr] : ren r p.2.2.2 = atomOf σ p.2.2.2).trans g3
        have e4 : c.args = #[x, y] := by apply Array.ext'; simpa using ha
        have h1' : p.1 = false := by simpa using h1
        rw [e3, h1']
        unfold execOp
        simp [ho, resolve, hc, e4, invoke, builtin, Builtin.max_, Builtin.max2, e1, e2]
def mncOrc (F : Mnc) : Orc := ⟨mncAsk F, [], fun _ => none⟩
theorem mncOrc_ok {P : Program} {F : Mnc} {σ : Nat → Value} (h : MncOK F σ) : OrcOK P (· = σ) (mncOrc F) := ⟨mncAsk_ok h, (fun g hg => nomatch hg), fun _ _ h => nomatch h⟩
theorem wrap_id {n : Int} (h1 : -9223372036854775808 ≤ n) (h2 : n ≤ 9223372036854775807) : IntKind.i64.wrap n = n := by
  show (if decide (n % 18446744073709551616 ≥ 9223372036854775808) = true then n % 18446744073709551616 - 18446744073709551616 else n % 18446744073709551616) = n
  simp only [decide_eq_true_eq]
  split <;> omega
theorem arith_run {P : Program} {op : BinOp} {a b c : Int} (h : (op = .add ∧ c = a + b) ∨ (op = .sub ∧ c = a - b) ∨ (op = .mul ∧ c = a * b)) (h1 : -9223372036854775808 ≤ c) (h2 : c ≤ 9223372036854775807) (t : TypeId) (x y : Operand) (w : World) :
    ((do eqGuard op t x y (.int .i64 a) (.int .i64 b); binOp op t (.int .i64 a) (.int .i64 b)) : Sem Value).run P w = .ok (.int .i64 c) w := by
  rcases h with ⟨rfl, rfl⟩ | ⟨rfl, rfl⟩ | ⟨rfl, rfl⟩ <;> simp [eqGuard, binOp, Op.intArith, wrap_id h1 h2]
end Go.Proofs.Ytfakfnekcgkelaa
