/- An evaluator of Go code whose memory has names of its own (13b): a constant text as a row of bytes. -/
import Derived.Test.YtljhlnpbomehkaaEwM
namespace Go.Proofs.Ytljhlnpbomehkaa
set_option linter.unusedVariables false
set_option linter.unusedSimpArgs false

/-- a row of bytes that comes of a constant text is marked -/
def aMarkRow (P : Program) (src dst : TypeId) (x : Value) : AM Value :=
  match P.underlying src, P.underlying dst, x with
  | some (.slice e'), some (.slice e), .slice (some ⟨b, off, none⟩) n c => (match P.underlying e with
    | some (.int .u8) => if src = dst ∧ b < 4611686018427387904 then (AM.look b).bind fun
      | .row cs el 0 false => (AM.put b (some (.row cs el 0 true))).bind fun _ => .pure x
      | _ => .fail
      else .fail
    | _ => .fail)
  | _, _, _ => .fail
theorem aMarkRow_sound {P : Program} {N : Nat → Prop} {ρ : Ren} {src dst : TypeId} {x x' : Value} (hx : VR N ρ x x') : Sim P N ρ (aMarkRow P src dst x) (convert src dst x') VRel := by
  intro h v h' he D w hcov hwf hN hr
  unfold aMarkRow at he
  split at he
  case h_2 => cases he
  case h_1 e' e b off n c hs hd =>
    split at he
    case h_2 => cases he
    case h_1 hu =>
      split at he
      case isFalse => cases he
      case isTrue hsd =>
        obtain ⟨rfl, hlt⟩ := hsd
        have hee : e' = e := by have := hs.symm.trans hd; simpa using this
        subst hee
        obtain ⟨ob, h1, e1, e2⟩ := AM.bind_some he
        have m1 := (AM.look b).mono _ _ _ e1
        obtain ⟨g1, rfl⟩ := AM.look_some e1
        split at e2
        case h_2 => cases e2
        case h_1 cs el =>
          obtain ⟨u, h2, e3, e4⟩ := AM.bind_some e2
          obtain ⟨rfl, rfl⟩ := AM.pure_some e4
          have m2 := (AM.put b _).mono _ _ _ e3
          have hDb : D b := (hcov.of m2).look
          obtain ⟨_, rfl⟩ := AM.put_some e3
          have hbn : b < h.next := by
            rcases Nat.lt_or_ge b h.next with hh | hh
            · exact hh
            · rw [hwf b hh] at g1; cases g1
          have hx' : x' = .slice (some ⟨ρ.φ b, off, none⟩) n (renCap ρ b c) := by rw [← hx.eq]; simp [ren, renB, renA]
          obtain ⟨ca, fr, q1, q2, q3, q4, q5⟩ := hr.holds b _ hDb g1
          have q3' : fr = (0, 0) := by simpa using q3
          subst q3'
          have q5' : ca.size = cs.length := by simpa using q5
          have hls := look_step (n := b) hr
          rw [Grow.eq_self] at hls
          have hlt2 : ρ.φ b < w.heap.size := (Array.getElem?_eq_some_iff.1 q1).1
          have hwh : ∀ i, (w.freeze ⟨ρ.φ b, ca.size, none⟩ 1).heap[i]? = if i = ρ.φ b then some (.cells ca el (ca.size, ca.size + 1)) else w.heap[i]? := fun i => by
            unfold World.freeze
            rw [if_neg (by decide)]
            simp only [Array.getElem?_modify]
            by_cases hi : ρ.φ b = i
            · subst hi; rw [if_pos rfl, if_pos rfl, q1]; simp
            · rw [if_neg hi, if_neg (fun e => hi e.symm)]
          have hrun : (convert src src x').run P w = .ok x' (w.freeze ⟨ρ.φ b, ca.size, none⟩ 1) := by
            subst hx'
            have hsh : ∀ w', Sem.run P (Sem.shape (ρ.φ b) Sem.pure) w' = .ok (w'.shape? (ρ.φ b)) w' := fun _ => rfl
            have hfz : ∀ a w', Sem.run P (Sem.freeze a 1 (Sem.pure ())) w' = .ok () (w'.freeze a 1) := fun _ _ => rfl
            simp [convert, run_underlying hs w, run_underlying hu w, markStringish, shape, freeze, hsh, hfz, World.shape?, q1]
          have hsz : (w.freeze ⟨ρ.φ b, ca.size, none⟩ 1).heap.size = w.heap.size := by
            unfold World.freeze
            rw [if_neg (by decide)]
            simp
          have hp := put_step (h := { h with tch := note h.base b h.tch }) (w' := w.freeze ⟨ρ.φ b, ca.size, none⟩ 1) (o := .row cs el 0 true) hlt hDb (by show (h.get b).isSome = true; rw [g1]; rfl) hbn hls.2
            ⟨ca, (ca.size, ca.size + 1), by rw [hwh, if_pos rfl], q2, by simp, q4, by simpa using q5'⟩ (by unfold World.freeze; rw [if_neg (by decide)]) (by unfold World.freeze; rw [if_neg (by decide)]) (by unfold World.freeze; rw [if_neg (by decide)]) (by rw [hsz]; exact Nat.le_refl _) (fun i _ hi => by rw [hwh, if_neg hi])
          refine ⟨ρ, x', _, hrun, hls.1.trans hp.1 m1 m2, ?_, ?_⟩
          · have := hp.2
            rw [show Grow N h.next _ = N from Grow.eq_self _ _]
            exact this
          · rw [show Grow N h.next _ = N from Grow.eq_self _ _]
            exact hx
end Go.Proofs.Ytljhlnpbomehkaa
