/- An evaluator of Go code whose memory has names of its own: a map's keys, or values, gathered in whatever order (slices.AppendSeq of nothing and an iterator over a map), as one step. -/
import Derived.Test.YtljhlnpbomehkaaEwLn
namespace Go.Proofs.Ytljhlnpbomehkaa
set_option linter.unusedVariables false
set_option linter.unusedSimpArgs false

def ins1 {α : Type} (x : α) : List α → List (List α)
  | [] => [[x]]
  | y :: r => (x :: y :: r) :: (ins1 x r).map (y :: ·)
def permsL {α : Type} : List α → List (List α)
  | [] => [[]]
  | x :: r => (permsL r).flatMap (ins1 x)
theorem mem_ins1 {α : Type} (x : α) : ∀ (a b : List α), a ++ x :: b ∈ ins1 x (a ++ b)
  | [], [] => by simp [ins1]
  | [], y :: r => by simp [ins1]
  | z :: a, b => by
    simp only [List.cons_append, ins1, List.mem_cons, List.mem_map]
    exact .inr ⟨a ++ x :: b, mem_ins1 x a b, rfl⟩
theorem mem_permsL {α : Type} : ∀ {l m : List α}, m.Perm l → m ∈ permsL l
  | [], m, h => by
    have := h.length_eq
    cases m with
    | nil => simp [permsL]
    | cons => simp at this
  | x :: r, m, h => by
    have hx : x ∈ m := h.symm.subset List.mem_cons_self
    obtain ⟨a, b, rfl⟩ := List.append_of_mem hx
    have h2 : (a ++ b).Perm r := by
      have h3 : (x :: (a ++ b)).Perm (x :: r) := (List.perm_middle.symm).trans h
      exact h3.cons_inv
    simp only [permsL, List.mem_flatMap]
    exact ⟨a ++ b, mem_permsL h2, mem_ins1 x a b⟩
/-- one of these -/
def lAlt {α : Type} (l : List (AM α)) : LM α where
  run h := match l with
    | [] => none
    | _ :: _ => gather (fun m => match m.run h with
      | some p => some [p]
      | none => none) l
  mono := by
    intro h r e p hp
    split at e
    · cases e
    · obtain ⟨m, _, a, ha, hpa⟩ := (gather_mem e).2 p hp
      split at ha
      · rename_i q hq
        injection ha with ha; subst ha
        obtain rfl : p = q := by simpa using hpa
        exact m.mono _ _ _ hq
      · cases ha
  ne := by
    intro h r e
    split at e
    · cases e
    · rename_i m t
      obtain ⟨a, b, ha, _, rfl⟩ := gather_cons e
      split at ha
      · injection ha with ha; subst ha; simp
      · cases ha
theorem lAlt_mem {α : Type} {l : List (AM α)} {h : AH} {r : List (α × AH)} (e : (lAlt l).run h = some r) : ∀ m ∈ l, ∃ p ∈ r, m.run h = some p := by
  intro m hm
  unfold lAlt at e
  dsimp only at e
  split at e
  · cases e
  · obtain ⟨a, ha, hin⟩ := (gather_mem e).1 m hm
    split at ha
    · rename_i q hq
      injection ha with ha; subst ha
      exact ⟨q, hin q (by simp), hq⟩
    · cases ha
def partOf (key : Bool) (e : MapEntry) : Value := match key with
  | true => e.key
  | false => e.val
/-- what may be gathered: entries that were born ahead of now, none twice, few, each of so many cells -/
def seqOk (c : Nat) (key : Bool) (es : List MapEntry) (cl : Nat) : Bool :=
  (es.all fun e => decide (e.born < cl) && Nat.beq (partOf key e).cells.size c) && (decide (es.map (·.born)).Nodup && decide (es.length ≤ 100))
def aSeqEs (c : Nat) (key : Bool) (bx : Nat) : AM (List MapEntry) := (AM.look bx).bind fun
  | .row (v :: _) _ _ _ => (match v with
    | .map none => .pure []
    | .map (some r) => (AM.look r).bind fun
      | .map es cl => (match seqOk c key es cl with
        | true => .pure es
        | false => .fail)
      | _ => .fail
    | _ => .fail)
  | _ => .fail
def aSeqRow (ct : TypeId) (c : Nat) (key : Bool) (es : List MapEntry) : AM Value := match es with
  | [] => .pure (.slice none 0 0)
  | _ :: _ => (AM.new (.row (es.flatMap fun e => (partOf key e).cells.toList) ct c false)).bind fun n => .pure (.slice (some ⟨n, 0, none⟩) es.length capTop)
/-- iterators, and whether they go over keys -/
abbrev Its := List (FuncId × Bool)
def Its.find : Its → FuncId → Option Bool
  | [], _ => none
  | p :: r, f => match Nat.beq p.1 f with
    | true => some p.2
    | false => Its.find r f
theorem Its.find_mem : ∀ {l : Its} {f : FuncId} {b : Bool}, l.find f = some b → (f, b) ∈ l
  | [], _, _, h => by cases h
  | p :: r, f, b, h => by
    unfold Its.find at h
    split at h
    · rename_i hb
      injection h with h
      have := Nat.eq_of_beq_eq_true hb
      subst this; subst h
      exact List.mem_cons_self
    · exact List.mem_cons_of_mem _ (Its.find_mem h)
/-- what of an argument is looked at -/
def seqArg : List Value → Option (FuncId × Nat)
  | [.slice none 0 0, .func (.func g) ⟨[]⟩ ⟨[.pointer (some ⟨bx, 0, none⟩)]⟩] => some (g, bx)
  | _ => none
theorem seqArg_spec {l : List Value} {g : FuncId} {bx : Nat} (h : seqArg l = some (g, bx)) : l = [.slice none 0 0, .func (.func g) #[] #[.pointer (some ⟨bx, 0, none⟩)]] := by
  unfold seqArg at h
  split at h
  · injection h with h; injection h with h5 h6
    subst h5; subst h6; rfl
  · cases h
def aAppendSeq (ct : TypeId) (c : Nat) (its : Its) (args : Array Value) : LM Value :=
  match seqArg args.toList with
  | some (g, bx) => (match its.find g with
    | some key => (LM.ofA (aSeqEs c key bx)).bind fun es => lAlt ((permsL es).map fun p => aSeqRow ct c key p)
    | none => .fail)
  | none => .fail
end Go.Proofs.Ytljhlnpbomehkaa
