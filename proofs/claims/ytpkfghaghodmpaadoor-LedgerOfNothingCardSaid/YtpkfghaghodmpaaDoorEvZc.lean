/- An evaluator of Go code whose memory has names of its own (27): made ready for the kernel: beside known calls, at a leaf of a tree of questions. -/
import Derived.Test.YtpkfghaghodmpaaDoorEvZb
import Derived.Test.YtpkfghaghodmpaaDoorEvX
namespace Go.Proofs.YtpkfghaghodmpaaDoor
set_option linter.unusedVariables false
set_option linter.unusedSimpArgs false

def fCallK (P : Program) (kn : KN) (orc : Orc) (fuel : Nat) (T : FuncId → Option FF) : Nat → FuncId → List Value → AH → Option (Value × AH)
  | 0, _, _, _ => none
  | n + 1, f, args, h => match kn.find f with
    | some v => (match args with
      | [] => some (v, h)
      | _ :: _ => none)
    | none => fFn P orc fuel T (fCallK P kn orc fuel T n) f args h
theorem fCallK_ok {P : Program} {kn : KN} {orc : Orc} {fuel : Nat} {T : FuncId → Option FF} (hT : TableOK P T) : ∀ n, CallF (fCallK P kn orc fuel T n) (aCallK P kn orc fuel n)
  | 0 => fun f args h r e => by cases e
  | n + 1 => fun f args h r e => by
    simp only [fCallK] at e
    simp only [aCallK]
    split at e
    · rename_i v hv
      rw [hv]
      cases args with
      | nil => simpa [AM.pure] using e
      | cons a l => cases e
    · rename_i hv
      rw [hv]
      exact fFn_ok hT (fCallK_ok hT n) f args h r e
/-- a table that was made beforehand -/
def AllOK (P : Program) : List (Nat × FF) → Prop
  | [] => True
  | p :: r => cFn P p.1 = some p.2 ∧ AllOK P r
def tblFind : List (Nat × FF) → Nat → Option FF
  | [], _ => none
  | p :: r, f => match Nat.beq p.1 f with
    | true => some p.2
    | false => tblFind r f
theorem tblFind_ok {P : Program} : ∀ {l : List (Nat × FF)}, AllOK P l → TableOK P (tblFind l)
  | [], _, f, ff, e => by cases e
  | p :: r, h, f, ff, e => by
    simp only [tblFind] at e
    split at e
    · rename_i hb
      injection e with e; subst e
      rw [← Nat.eq_of_beq_eq_true hb]; exact h.1
    · exact tblFind_ok h.2 f ff e
/-- .. and the others, looked at when they are called -/
def tblOr (P : Program) (l : List (Nat × FF)) (f : FuncId) : Option FF :=
  match tblFind l f with
  | some x => some x
  | none => cFn P f
theorem tblOr_ok {P : Program} {l : List (Nat × FF)} (h : AllOK P l) : TableOK P (tblOr P l) := by
  intro f ff e
  unfold tblOr at e
  split at e
  · rename_i x hx; injection e with e; subst e; exact tblFind_ok h f x hx
  · exact e
def regsOf : Code → List (Array Oper)
  | .region _ ops _ => [ops]
  | .seq a b => regsOf a ++ regsOf b
  | .cond _ a b => regsOf a ++ regsOf b
  | .block _ b => regsOf b
  | .loop b => regsOf b
  | .scope b => regsOf b
  | _ => []
/-- an operation of a program, by its place -/
def opAt (P : Program) (f i j : Nat) : Oper :=
  match P.funcs[f]? with
  | some fn => (match fn.body with
    | some c => (((regsOf c).getD i #[]).toList.getD j default)
    | none => default)
  | none => default
def h00 : AH := ⟨.lf, 0, 0, [], []⟩
def isTrue' : Option (Value × AH) → Bool
  | some (.bool true, _) => true
  | _ => false
theorem isTrue'_spec {x : Option (Value × AH)} (h : isTrue' x = true) : ∃ a, x = some (.bool true, a) := by
  unfold isTrue' at h
  split at h
  · exact ⟨_, rfl⟩
  · cases h
theorem leafX_fast {P : Program} {kn : KN} {X : Orc} {S : List Nat} {E : ET} {fuel n : Nat} {f : FuncId} {args : Array Value} {K : KB} {T : FuncId → Option FF} (hT : TableOK P T)
    (h : isTrue' (fCallK P kn (orcOr (kOrc P S E K) X) fuel T n f args.toList h00) = true) : DT.leaf.check (okKX P kn X S E fuel n f args) K = true := by
  obtain ⟨a, ha⟩ := isTrue'_spec h
  have := fCallK_ok hT n f args.toList h00 _ ha
  refine check_leaf ?_
  unfold okKX
  rw [show (⟨.lf, 0, 0, [], []⟩ : AH) = h00 from rfl]
  rw [show args.toList.toArray = args from by simp] at this
  rw [this]
theorem leafK_fast {P : Program} {kn : KN} {S : List Nat} {E : ET} {fuel n : Nat} {f : FuncId} {args : Array Value} {K : KB} {T : FuncId → Option FF} (hT : TableOK P T)
    (h : isTrue' (fCallK P kn (kOrc P S E K) fuel T n f args.toList h00) = true) : DT.leaf.check (okK P kn S E fuel n f args) K = true := by
  obtain ⟨a, ha⟩ := isTrue'_spec h
  have := fCallK_ok hT n f args.toList h00 _ ha
  refine check_leaf ?_
  unfold okK
  rw [show (⟨.lf, 0, 0, [], []⟩ : AH) = h00 from rfl]
  rw [show args.toList.toArray = args from by simp] at this
  rw [this]
theorem eval_fast {P : Program} {orc : Orc} {fuel n : Nat} {f : FuncId} {args : Array Value} {T : FuncId → Option FF} (hT : TableOK P T)
    (h : isTrue' (fCall P orc fuel T n f args.toList h00) = true) : ((aCall P orc fuel n f args).run ⟨.lf, 0, 0, [], []⟩).map (·.1) = some (.bool true) := by
  obtain ⟨a, ha⟩ := isTrue'_spec h
  have := fCall_ok hT n f args.toList h00 _ ha
  rw [show (⟨.lf, 0, 0, [], []⟩ : AH) = h00 from rfl]
  rw [show args.toList.toArray = args from by simp] at this
  rw [this]; rfl
theorem evalK_fast {P : Program} {kn : KN} {orc : Orc} {fuel n : Nat} {f : FuncId} {args : Array Value} {T : FuncId → Option FF} (hT : TableOK P T)
    (h : isTrue' (fCallK P kn orc fuel T n f args.toList h00) = true) : ((aCallK P kn orc fuel n f args).run ⟨.lf, 0, 0, [], []⟩).map (·.1) = some (.bool true) := by
  obtain ⟨a, ha⟩ := isTrue'_spec h
  have := fCallK_ok hT n f args.toList h00 _ ha
  rw [show (⟨.lf, 0, 0, [], []⟩ : AH) = h00 from rfl]
  rw [show args.toList.toArray = args from by simp] at this
  rw [this]; rfl
/-- .. from a heap of the package's variables, none of which is written -/
def okKG (P : Program) (m0 : Tr) (n0 : Nat) (X : Orc) (S : List Nat) (E : ET) (fuel n : Nat) (f : FuncId) (args : Array Value) (K : KB) : Bool :=
  match (aCall P (orcOr (kOrc P S E K) X) fuel n f args).run ⟨m0, n0, n0, [], []⟩ with
  | some (.bool true, h') => h'.wrt.isEmpty
  | _ => false
theorem Calls.of_treeG {P : Program} (hm : P.follows .mixedOrders = true) (hn : NameOK P) {X : Orc} {S : List Nat} {E : ET} {K : KB} {σ : Nat → Value} (hσ : ∀ k, (σ k).oneCell' = true) (hX : OrcOK P (· = σ) X) (hE : EqOK P E) (hK : KOK K σ) (hS : SOK S σ) {fuel n : Nat} {f : FuncId} {args args' : Array Value}
    (ha : ∀ r : Ren, r.σ = σ → args.map (ren r) = args') {t : DT} {m0 : Tr} {n0 : Nat} (ht : t.check (okKG P m0 n0 X S E fuel n f args) K = true) (w : World) (hg : ∀ g, σ (gsym g) = .nilFunc → g < n0) (hw0 : ∀ g, n0 ≤ g → m0.get g = none)
    (hh : ∀ g o, m0.get g = some o → Holds (fun g => g < n0) ⟨fun g => g, fun _ => 0, σ⟩ g w o) : Calls P f args' w fun e w' => e = .returned (.bool true) ∧ RowKit.Below w.heap.size w w' := by
  obtain ⟨K', h1, h2⟩ := DT.sound t K ht hK
  unfold okKG at h2
  split at h2
  case h_2 => cases h2
  case h_1 h' he => exact Calls.of_evalG hm hn hσ (orcOr_ok (kOrc_ok hE h1 hS) hX) ha w hg hw0 hh he (by simpa using h2) rfl
def isTrueW : Option (Value × AH) → Bool
  | some (.bool true, h) => h.wrt.isEmpty
  | _ => false
theorem leafG_fast {P : Program} {m0 : Tr} {n0 : Nat} {X : Orc} {S : List Nat} {E : ET} {fuel n : Nat} {f : FuncId} {args : Array Value} {K : KB} {T : FuncId → Option FF} (hT : TableOK P T)
    (h : isTrueW (fCall P (orcOr (kOrc P S E K) X) fuel T n f args.toList ⟨m0, n0, n0, [], []⟩) = true) : DT.leaf.check (okKG P m0 n0 X S E fuel n f args) K = true := by
  refine check_leaf ?_
  unfold isTrueW at h
  split at h
  case h_2 => cases h
  case h_1 a ha =>
    have := fCall_ok hT n f args.toList _ _ ha
    rw [show args.toList.toArray = args from by simp] at this
    unfold okKG
    rw [this]
    exact h
theorem Calls.of_fastG {P : Program} (hm : P.follows .mixedOrders = true) (hn : NameOK P) {orc : Orc} {σ : Nat → Value} (hσ : ∀ k, (σ k).oneCell' = true) (ho : OrcOK P (· = σ) orc) {fuel n : Nat} {f : FuncId} {args args' : Array Value} {T : FuncId → Option FF} (hT : TableOK P T)
    (ha : ∀ r : Ren, r.σ = σ → args.map (ren r) = args') {m0 : Tr} {n0 : Nat} (w : World) (hg : ∀ g, σ (gsym g) = .nilFunc → g < n0) (hw0 : ∀ g, n0 ≤ g → m0.get g = none)
    (hh : ∀ g o, m0.get g = some o → Holds (fun g => g < n0) ⟨fun g => g, fun _ => 0, σ⟩ g w o)
    (h : isTrueW (fCall P orc fuel T n f args.toList ⟨m0, n0, n0, [], []⟩) = true) : Calls P f args' w fun e w' => e = .returned (.bool true) ∧ RowKit.Below w.heap.size w w' := by
  unfold isTrueW at h
  split at h
  case h_2 => cases h
  case h_1 a hac =>
    have := fCall_ok hT n f args.toList _ _ hac
    rw [show args.toList.toArray = args from by simp] at this
    exact Calls.of_evalG hm hn hσ ho ha w hg hw0 hh this (by simpa using h) rfl
/-- two rows of numbers as the package's variables 0 and 1 -/
def twoRows (a b : List Value) (s t : TypeId) : Tr := .nd (some (.row a s 0 false)) (.nd (some (.row b t 0 false)) .lf .lf) .lf
theorem twoRows_none {a b : List Value} {s t : TypeId} : ∀ g, 2 ≤ g → (twoRows a b s t).get g = none
  | 0, h => by omega
  | 1, h => by omega
  | k + 2, _ => by
    have hx : ∀ o n, 0 < n → (Tr.nd o .lf .lf).get n = none := fun o n hn => by
      cases n with
      | zero => omega
      | succ m => simp [Tr.get, Tr.get_lf]
    simp only [twoRows, Tr.get]
    split
    · exact hx _ _ (by omega)
    · first | exact Tr.get_lf _ | rfl
theorem twoRows_holds {a b : List Value} {s t : TypeId} {σ : Nat → Value} {w : World} (ha : a.all shut = true) (hb : b.all shut = true) (h0 : w.heap[0]? = some (.cells a.toArray s (0, 0))) (h1 : w.heap[1]? = some (.cells b.toArray t (0, 0))) :
    ∀ g o, (twoRows a b s t).get g = some o → Holds (fun g => g < 2) ⟨fun g => g, fun _ => 0, σ⟩ g w o := by
  intro g o hgo
  rcases Nat.lt_or_ge g 2 with h | h
  · match g, h with
    | 0, _ =>
      simp only [twoRows, Tr.get, Option.some.injEq] at hgo
      subst hgo
      exact ⟨a.toArray, (0, 0), h0, by rw [show (a.toArray).toList.take a.length = a from by simp]; exact LR.shut ha, by simp, by simp, by simp⟩
    | 1, _ =>
      simp only [twoRows, Tr.get, Option.some.injEq] at hgo
      simp at hgo
      subst hgo
      exact ⟨b.toArray, (0, 0), h1, by rw [show (b.toArray).toList.take b.length = b from by simp]; exact LR.shut hb, by simp, by simp, by simp⟩
  · rw [twoRows_none g h] at hgo; cases hgo
end Go.Proofs.YtpkfghaghodmpaaDoor
