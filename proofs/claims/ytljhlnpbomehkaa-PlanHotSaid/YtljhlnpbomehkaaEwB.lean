/- An evaluator of Go code whose memory has names of its own (2): what a heap by names says of a world; one step of a program over it, and one of Go's. -/
import Derived.Test.YtljhlnpbomehkaaEwA
import Derived.Maps.AppendAt
namespace Go.Proofs.Ytljhlnpbomehkaa
set_option linter.unusedVariables false
set_option linter.unusedSimpArgs false

structure ER (N : Nat → Prop) (ρ : Ren) (e e' : MapEntry) : Prop where
  key : VR N ρ e.key e'.key
  val : VR N ρ e.val e'.val
  born : e'.born = e.born
/-- what lies at block k is o -/
def Holds (N : Nat → Prop) (ρ : Ren) (n : Nat) (w : World) : AObj → Prop
  | .row cs e op marked => ∃ c fr, w.heap[ρ.φ n]? = some (.cells c e fr) ∧ LR N ρ cs (c.toList.take cs.length) ∧
      (if marked then c.size ≤ fr.1 ∨ fr.2 = 0 else fr = (0, 0)) ∧ cs.length ≤ c.size ∧
      (if op = 0 then c.size = cs.length else c.size = ρ.κ n * op ∧ ρ.κ n ≤ maxLen)
  | .map es clock => ∃ es' : Array MapEntry, w.heap[ρ.φ n]? = some (.map es' clock) ∧ es'.size = es.length ∧ ∀ (i : Nat) (e : MapEntry), es[i]? = some e → ∃ e', es'[i]? = some e' ∧ ER N ρ e e'
  | .iter m since seen st => ∃ m', w.heap[ρ.φ n]? = some (.mapIter m' since seen.toArray st) ∧ ∀ r, Agree N ρ r → m.map r.φ = m'
theorem Holds.lt {N : Nat → Prop} {ρ : Ren} {n : Nat} {w : World} {o : AObj} (h : Holds N ρ n w o) : ρ.φ n < w.heap.size := by
  cases o with
  | row cs e op mk => obtain ⟨c, fr, h, _⟩ := h; exact (Array.getElem?_eq_some_iff.1 h).1
  | map es cl => obtain ⟨c, h, _⟩ := h; exact (Array.getElem?_eq_some_iff.1 h).1
  | iter m s e t => obtain ⟨c, h, _⟩ := h; exact (Array.getElem?_eq_some_iff.1 h).1
theorem Holds.mono {N N' : Nat → Prop} {ρ ρ' : Ren} {n : Nat} {w w' : World} {o : AObj} (h : Holds N ρ n w o) (ha : Agree N ρ ρ') (hN : ∀ n, N n → N' n) (hn : N n)
    (hw : w'.heap[ρ.φ n]? = w.heap[ρ.φ n]?) : Holds N' ρ' n w' o := by
  cases o with
  | row cs e op mk =>
    obtain ⟨c, fr, h1, h2, h4, h5, h6⟩ := h
    refine ⟨c, fr, ?_, h2.mono ha hN, h4, h5, ?_⟩
    · rw [ha.φ n hn, hw]; exact h1
    · rw [ha.κ n hn]; exact h6
  | map es cl =>
    obtain ⟨es', h1, h2, h3⟩ := h
    refine ⟨es', ?_, h2, fun i e he => ?_⟩
    · rw [ha.φ n hn, hw]; exact h1
    · obtain ⟨e', he', r⟩ := h3 i e he
      exact ⟨e', he', r.key.mono ha hN, r.val.mono ha hN, r.born⟩
  | iter m s e t =>
    obtain ⟨m', h1, h2⟩ := h
    exact ⟨m', by rw [ha.φ n hn, hw]; exact h1, fun r hr => h2 r (ha.trans hr hN)⟩

/-- the symbol that tells that a package's variable is a name -/
def gsym (g : Nat) : Nat := 5000000 + g
/-- of the names of D: what lies there, where they lie apart -/
structure Rel (D N : Nat → Prop) (ρ : Ren) (h : Nat → Option AObj) (w : World) : Prop where
  inj : ∀ n m, D n → D m → (h n).isSome → (h m).isSome → ρ.φ n = ρ.φ m → n = m
  holds : ∀ n o, D n → h n = some o → Holds N ρ n w o
  known : ∀ n, D n → (h n).isSome → N n
  sym : ∀ k, (ρ.σ k).oneCell' = true
  glob : ∀ g, ρ.σ (gsym g) = .nilFunc → N g ∧ ρ.φ g = g

def Span (a b n : Nat) : Prop := a ≤ n ∧ n < b
/-- what became of the world in one step -/
structure Step (D : Nat → Prop) (h : AH) (ρ : Ren) (w : World) (h' : AH) (ρ' : Ren) (w' : World) : Prop where
  agree : Agree (fun n => ¬ Span h.next h'.next n) ρ ρ'
  fresh : ∀ n, Span h.next h'.next n → w.heap.size ≤ ρ'.φ n ∨ ∃ m, D m ∧ m < h.next ∧ (h.get m).isSome ∧ (m ∈ h'.wrt ∨ h.base ≤ m) ∧ ρ'.φ n = ρ.φ m
  os : w'.os = w.os
  tape : w'.tape = w.tape
  output : w'.output = w.output
  size : w.heap.size ≤ w'.heap.size
  frame : ∀ k, k < w.heap.size → (∀ m, D m → m < h.next → (h.get m).isSome → (m ∈ h'.wrt ∨ h.base ≤ m) → ρ.φ m ≠ k) → w'.heap[k]? = w.heap[k]?
theorem Step.refl (D : Nat → Prop) (h : AH) (ρ : Ren) (w : World) : Step D h ρ w h ρ w :=
  ⟨Agree.refl _ _, fun n hn => absurd hn.1 (by have := hn.2; omega), rfl, rfl, rfl, Nat.le_refl _, fun _ _ _ => rfl⟩
theorem Step.trans {D : Nat → Prop} {a b c : AH} {ρ ρ' ρ'' : Ren} {w w' w'' : World} (h : Step D a ρ w b ρ' w') (k : Step D b ρ' w' c ρ'' w'') (hm : Mono a b) (km : Mono b c) :
    Step D a ρ w c ρ'' w'' := by
  have hle := hm.next
  have kle := km.next
  refine ⟨⟨k.agree.σ.trans h.agree.σ, fun n hn => ?_, fun n hn => ?_⟩, fun n hn => ?_, k.os.trans h.os, k.tape.trans h.tape, k.output.trans h.output, Nat.le_trans h.size k.size, fun i hi hn => ?_⟩
  · rw [k.agree.φ n (fun hs => hn ⟨by have := hs.1; omega, hs.2⟩), h.agree.φ n (fun hs => hn ⟨hs.1, by have := hs.2; omega⟩)]
  · rw [k.agree.κ n (fun hs => hn ⟨by have := hs.1; omega, hs.2⟩), h.agree.κ n (fun hs => hn ⟨hs.1, by have := hs.2; omega⟩)]
  · -- a new name
    have key : ∀ m, m < b.next → (m ∈ c.wrt ∨ b.base ≤ m) → (b.get m).isSome → D m → ρ'.φ m < w.heap.size → ∃ m0, D m0 ∧ m0 < a.next ∧ (a.get m0).isSome ∧ (m0 ∈ c.wrt ∨ a.base ≤ m0) ∧ ρ'.φ m = ρ.φ m0 := by
      intro m hlt hw hs hD hsz
      by_cases ham : a.next ≤ m
      · rcases h.fresh m ⟨ham, hlt⟩ with h1 | ⟨m0, h1, h2, h3, h4, h5⟩
        · omega
        · exact ⟨m0, h1, h2, h3, h4.imp (fun x => km.wrt _ x) id, h5⟩
      · refine ⟨m, hD, by omega, hm.dom m (by omega) hs, hw.imp id (fun x => by rw [hm.base] at x; exact x), ?_⟩
        rw [h.agree.φ m (fun hs => ham hs.1)]
    by_cases hb : b.next ≤ n
    · rcases k.fresh n ⟨hb, hn.2⟩ with h1 | ⟨m, h1, h2, h3, h4, h5⟩
      · exact .inl (Nat.le_trans h.size h1)
      · by_cases hsz : ρ'.φ m < w.heap.size
        · obtain ⟨m0, q1, q2, q3, q4, q5⟩ := key m h2 h4 h3 h1 hsz
          exact .inr ⟨m0, q1, q2, q3, q4, h5.trans q5⟩
        · exact .inl (by omega)
    · rw [k.agree.φ n (fun hs => hb hs.1)]
      rcases h.fresh n ⟨hn.1, by omega⟩ with h1 | ⟨m0, h1, h2, h3, h4, h5⟩
      · exact .inl h1
      · exact .inr ⟨m0, h1, h2, h3, h4.imp (fun x => km.wrt _ x) id, h5⟩
  · rw [k.frame i (Nat.lt_of_lt_of_le hi h.size) ?_, h.frame i hi ?_]
    · intro m hD hlt hs hw
      exact hn m hD hlt hs (hw.imp (fun x => km.wrt _ x) id)
    · intro m hD hlt hs hw he
      by_cases ham : a.next ≤ m
      · rcases h.fresh m ⟨ham, hlt⟩ with h1 | ⟨m0, h1, h2, h3, h4, h5⟩
        · omega
        · exact hn m0 h1 h2 h3 (h4.imp (fun x => km.wrt _ x) id) (by rw [← h5]; exact he)
      · refine hn m hD (by omega) (hm.dom m (by omega) hs) (hw.imp id (fun x => by rw [hm.base] at x; exact x)) ?_
        rw [← h.agree.φ m (fun hs => ham hs.1)]; exact he

/-- D holds all that is touched from here on -/
structure Cov (D : Nat → Prop) (h : AH) : Prop where
  tch : ∀ n ∈ h.tch, D n
  base : ∀ n, h.base ≤ n → D n
theorem Cov.of {D : Nat → Prop} {h h' : AH} (hc : Cov D h') (hm : Mono h h') : Cov D h := ⟨fun n hn => hc.tch n (hm.tch n hn), fun n hn => hc.base n (by rw [hm.base]; exact hn)⟩
def Grow (N : Nat → Prop) (a b : Nat) : Nat → Prop := fun n => N n ∨ Span a b n
/-- none of the names from a to b is known -/
def New (N : Nat → Prop) (a b : Nat) : Prop := ∀ n, Span a b n → ¬ N n
theorem agree_step {D N : Nat → Prop} {h h' : AH} {ρ ρ' : Ren} {w w' : World} (hs : Step D h ρ w h' ρ' w') (hN : New N h.next h'.next) : Agree N ρ ρ' :=
  ⟨hs.agree.σ, fun n hn => hs.agree.φ n (fun hh => hN n hh hn), fun n hn => hs.agree.κ n (fun hh => hN n hh hn)⟩

/-- what a run of m from h says of one of s -/
def Sim (P : Program) {α β : Type} (N : Nat → Prop) (ρ : Ren) (m : AM α) (s : Sem β) (R : (Nat → Prop) → Ren → α → β → Prop) : Prop :=
  ∀ h x h', m.run h = some (x, h') → ∀ (D : Nat → Prop) (w : World), Cov D h' → WF h → New N h.next h'.next → Rel D N ρ h.get w →
    ∃ ρ' y w', s.run P w = .ok y w' ∧ Step D h ρ w h' ρ' w' ∧ Rel D (Grow N h.next h'.next) ρ' h'.get w' ∧ R (Grow N h.next h'.next) ρ' x y
theorem Rel.of_eq {D N N' : Nat → Prop} {ρ : Ren} {h : Nat → Option AObj} {w : World} (hr : Rel D N ρ h w) (hN : ∀ n, N n → N' n) : Rel D N' ρ h w :=
  ⟨hr.inj, fun n o hD ho => (hr.holds n o hD ho).mono (Agree.refl _ _) hN (hr.known n hD (by rw [ho]; rfl)) rfl, fun n hD hs => hN n (hr.known n hD hs), hr.sym, fun g hg => ⟨hN g (hr.glob g hg).1, (hr.glob g hg).2⟩⟩
theorem Grow.self {N : Nat → Prop} {a : Nat} {n : Nat} : Grow N a a n ↔ N n := ⟨fun h => h.elim id (fun hs => absurd hs.1 (by have := hs.2; omega)), .inl⟩
theorem Grow.eq_self (N : Nat → Prop) (a : Nat) : Grow N a a = N := funext fun _ => propext Grow.self
theorem Grow.trans_eq (N : Nat → Prop) {a b c : Nat} (h : a ≤ b) (k : b ≤ c) : Grow (Grow N a b) b c = Grow N a c := funext fun n => propext (by
  unfold Grow Span
  constructor
  · rintro ((h1 | h1) | h1)
    · exact .inl h1
    · exact .inr ⟨h1.1, by omega⟩
    · exact .inr ⟨by omega, h1.2⟩
  · rintro (h1 | h1)
    · exact .inl (.inl h1)
    · by_cases hb : n < b
      · exact .inl (.inr ⟨h1.1, hb⟩)
      · exact .inr ⟨by omega, h1.2⟩)
theorem Sim.pure {P : Program} {α β : Type} {N : Nat → Prop} {ρ : Ren} {x : α} {y : β} {R : (Nat → Prop) → Ren → α → β → Prop} (hR : R N ρ x y) : Sim P N ρ (.pure x) (.pure y) R := by
  intro h x' h' e D w _ _ _ hr
  obtain ⟨rfl, rfl⟩ := AM.pure_some e
  refine ⟨ρ, y, w, rfl, Step.refl _ _ _ _, ?_, ?_⟩ <;> rw [Grow.eq_self] <;> assumption
theorem Sim.bind {P : Program} {α β γ δ : Type} {N : Nat → Prop} {ρ : Ren} {m : AM α} {f : α → AM γ} {s : Sem β} {g : β → Sem δ} {R1 : (Nat → Prop) → Ren → α → β → Prop} {R2 : (Nat → Prop) → Ren → γ → δ → Prop}
    (h1 : Sim P N ρ m s R1) (h2 : ∀ (N' : Nat → Prop) (ρ' : Ren) x y, (∀ n, N n → N' n) → Agree N ρ ρ' → R1 N' ρ' x y → Sim P N' ρ' (f x) (g y) R2) : Sim P N ρ (m.bind f) (s.bind g) R2 := by
  intro h x h' e D w hc hwf hN hr
  obtain ⟨x1, hm, e1, e2⟩ := AM.bind_some e
  have m1 := m.mono _ _ _ e1
  have m2 := (f x1).mono _ _ _ e2
  have l1 := m1.next
  have l2 := m2.next
  obtain ⟨ρ1, y1, w1, r1, s1, q1, p1⟩ := h1 h x1 hm e1 D w (hc.of m2) hwf (fun n hn => hN n ⟨hn.1, by have := hn.2; omega⟩) hr
  obtain ⟨ρ2, y2, w2, r2, s2, q2, p2⟩ := h2 _ _ x1 y1 (fun n hn => .inl hn) (agree_step s1 (fun n hn => hN n ⟨hn.1, by have := hn.2; omega⟩)) p1 hm x h' e2 D w1 hc (m1.wf hwf)
    (fun n hn hh => hh.elim (hN n ⟨by have := hn.1; omega, hn.2⟩) (fun hs => by have := hs.2; have := hn.1; omega)) q1
  rw [Grow.trans_eq N l1 l2] at q2 p2
  refine ⟨ρ2, y2, w2, ?_, s1.trans s2 m1 m2, q2, p2⟩
  have : (s.bind g).run P w = (s.run P w).andThen (fun a w => (g a).run P w) := by
    exact Sem.run_bind' P s g w
  rw [this, r1]
  exact r2
theorem Sim.fail {P : Program} {α β : Type} {N : Nat → Prop} {ρ : Ren} {s : Sem β} {R : (Nat → Prop) → Ren → α → β → Prop} : Sim P N ρ (AM.fail : AM α) s R := by
  intro h x h' e; cases e
theorem Sim.mono {P : Program} {α β : Type} {N : Nat → Prop} {ρ : Ren} {m : AM α} {s : Sem β} {R R' : (Nat → Prop) → Ren → α → β → Prop} (h : Sim P N ρ m s R)
    (hR : ∀ (N' : Nat → Prop) (ρ' : Ren) x y, (∀ n, N n → N' n) → Agree N ρ ρ' → R N' ρ' x y → R' N' ρ' x y) : Sim P N ρ m s R' := by
  intro h0 x h' e D w hc hwf hN hr
  obtain ⟨ρ1, y1, w1, r1, s1, q1, p1⟩ := h h0 x h' e D w hc hwf hN hr
  exact ⟨ρ1, y1, w1, r1, s1, q1, hR _ _ _ _ (fun n hn => .inl hn) (agree_step s1 hN) p1⟩
end Go.Proofs.Ytljhlnpbomehkaa
