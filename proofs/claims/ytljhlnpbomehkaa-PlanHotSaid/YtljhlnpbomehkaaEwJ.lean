/- An evaluator of Go code whose memory has names of its own (10): operations that look at memory. -/
import Derived.Test.YtljhlnpbomehkaaEwI
import Derived.Laws.Entries
namespace Go.Proofs.Ytljhlnpbomehkaa
set_option linter.unusedVariables false
set_option linter.unusedSimpArgs false

theorem VR_ptr {N : Nat → Prop} {ρ : Ren} {n b k o : Nat} : VR (Grow N n (n + 1)) (ρ.at n b k) (.pointer (some ⟨n, o, none⟩)) (.pointer (some ⟨b, o, none⟩)) := fun r hr => by
  have h1 := hr.φ n (.inr ⟨Nat.le_refl _, Nat.lt_succ_self _⟩)
  rw [Ren.at_φ] at h1
  simp [ren, renB, renA, h1]
theorem VR_slice {N : Nat → Prop} {ρ : Ren} {n b k o len cap cap' : Nat} (hc : cap' = if capTop ≤ cap then k - (cap - capTop) else cap) :
    VR (Grow N n (n + 1)) (ρ.at n b k) (.slice (some ⟨n, o, none⟩) len cap) (.slice (some ⟨b, o, none⟩) len cap') := fun r hr => by
  have h1 := hr.φ n (.inr ⟨Nat.le_refl _, Nat.lt_succ_self _⟩)
  have h2 := hr.κ n (.inr ⟨Nat.le_refl _, Nat.lt_succ_self _⟩)
  rw [Ren.at_φ] at h1
  rw [Ren.at_κ] at h2
  simp only [ren, renB, renA, h1, renCap, h2, hc]
theorem VR_map {N : Nat → Prop} {ρ : Ren} {n b k : Nat} : VR (Grow N n (n + 1)) (ρ.at n b k) (.map (some n)) (.map (some b)) := fun r hr => by
  have h1 := hr.φ n (.inr ⟨Nat.le_refl _, Nat.lt_succ_self _⟩)
  rw [Ren.at_φ] at h1
  simp [ren, h1]
theorem LR.cells {N : Nat → Prop} {ρ : Ren} (hs : SymOk ρ) {v v' : Value} (h : VR N ρ v v') : LR N ρ v.cells.toList v'.cells.toList := fun r hr => by
  rw [← h r hr, cells_ren (fun k => by rw [hr.σ]; exact hs k), Array.toList_map]
theorem LR.shut {N : Nat → Prop} {ρ : Ren} {l : List Value} (h : l.all Go.Proofs.Ytljhlnpbomehkaa.shut = true) : LR N ρ l l := fun r hr => by
  have : l.map (ren r) = l.map id := List.map_congr_left (fun v hv => ren_shut r ((List.all_eq_true.1 h) v hv))
  rw [this, List.map_id]

/-- a new closed row -/
theorem new_row {D N : Nat → Prop} {h : AH} {ρ : Ren} {w : World} {cs : List Value} {c : Array Value} {e : TypeId} (hl : h.next < 4611686018427387904) (hwf : WF h) (hN : ¬ N h.next) (hr : Rel D N ρ h.get w) (hc : LR N ρ cs c.toList) :
    Step D h ρ w { h with m := h.m.set 64 h.next (some (.row cs e 0 false)), next := h.next + 1 } (ρ.at h.next w.heap.size 0) { w with heap := w.heap.push (.cells c e) } ∧
    Rel D (Grow N h.next (h.next + 1)) (ρ.at h.next w.heap.size 0) ({ h with m := h.m.set 64 h.next (some (.row cs e 0 false)), next := h.next + 1 } : AH).get { w with heap := w.heap.push (.cells c e) } := by
  have hlen : c.size = cs.length := by rw [← hc.length, Array.length_toList]
  refine new_step hl hwf hN hr w.heap.size 0 (Nat.le_refl _) ⟨c, (0, 0), ?_, ?_, rfl, ?_, hlen⟩ rfl rfl rfl (by simp) (fun i hi => ?_)
  · rw [Ren.at_φ]; simp
  · rw [List.take_of_length_le (show c.toList.length ≤ cs.length by rw [Array.length_toList]; omega)]
    exact hc.mono (Ren.at_agree ρ hN) (fun _ h => .inl h)
  · omega
  · show (w.heap.push _)[i]? = _
    rw [Array.getElem?_push, if_neg (by omega)]

abbrev VRel (N : Nat → Prop) (ρ : Ren) (x x' : Value) : Prop := VR N ρ x x'
def aNewRow (e : TypeId) (cs : List Value) : AM Nat := AM.new (.row cs e 0 false)
theorem aNewRow_sound {P : Program} {N : Nat → Prop} {ρ : Ren} {e : TypeId} {cs : List Value} {c : Array Value} (hc : LR N ρ cs c.toList) :
    Sim P N ρ (aNewRow e cs) (newRow e c) (fun N ρ n a => a = ⟨ρ.φ n, 0, none⟩ ∧ N n) := by
  intro h x h' he D w hcov hwf hN hr
  obtain ⟨rfl, hl, rfl⟩ := AM.new_some he
  have hNn : ¬ N h.next := hN h.next ⟨Nat.le_refl _, Nat.lt_succ_self _⟩
  obtain ⟨s, q⟩ := new_row (e := e) hl hwf hNn hr hc
  exact ⟨_, _, _, rfl, s, q, by rw [Ren.at_φ], .inr ⟨Nat.le_refl _, Nat.lt_succ_self _⟩⟩
theorem VR_of {N : Nat → Prop} {ρ : Ren} {n o : Nat} (h : N n) : VR N ρ (.pointer (some ⟨n, o, none⟩)) (.pointer (some ⟨ρ.φ n, o, none⟩)) := fun r hr => by simp [ren, renB, renA, hr.φ n h]
theorem VR_sl {N : Nat → Prop} {ρ : Ren} {n o len cap : Nat} (h : N n) (hc : cap < capTop) : VR N ρ (.slice (some ⟨n, o, none⟩) len cap) (.slice (some ⟨ρ.φ n, o, none⟩) len cap) := fun r hr => by
  simp only [ren, renB, renA, hr.φ n h, renCap]
  rw [if_neg (by omega)]

def zeroOf (P : Program) (t : TypeId) : Option (List Value) :=
  match P.info? t with
  | some i => match i.zero with
    | some z => if shut z && z.cells.toList.all shut then some z.cells.toList else none
    | none => none
  | none => none
theorem zeroOf_run {P : Program} {t : TypeId} {cs : List Value} (h : zeroOf P t = some cs) (w : World) : ∃ z, (zeroValue t).run P w = .ok z w ∧ z.cells.toList = cs ∧ cs.all shut = true := by
  unfold zeroOf at h
  cases hi : P.info? t with
  | none => rw [hi] at h; cases h
  | some i =>
    rw [hi] at h
    dsimp only at h
    cases hz : i.zero with
    | none => rw [hz] at h; cases h
    | some z =>
      rw [hz] at h
      dsimp only at h
      split at h
      · rename_i hs
        injection h with h; subst h
        rw [Bool.and_eq_true] at hs
        refine ⟨z, by simp [zeroValue, typeInfo, hi, hz], rfl, hs.2⟩
      · cases h

def aAlloc (P : Program) (t : TypeId) : AM Value :=
  match zeroOf P t with
  | some cs => (aNewRow t cs).bind fun n => .pure (.pointer (some ⟨n, 0, none⟩))
  | none => .fail
theorem aAlloc_sound {P : Program} {N : Nat → Prop} {ρ : Ren} {t : TypeId} : Sim P N ρ (aAlloc P t) (Instr.alloc t true (.tuple #[])) VRel := by
  unfold aAlloc
  cases hz : zeroOf P t with
  | none => exact Sim.fail
  | some cs =>
    intro h x h' he D w hcov hwf hN hr
    obtain ⟨z, r1, r2, r3⟩ := zeroOf_run hz w
    have := (aNewRow_sound (P := P) (N := N) (ρ := ρ) (e := t) (cs := cs) (c := z.cells) (by rw [r2]; exact LR.shut r3)).bind (f := fun n => AM.pure (Value.pointer (some ⟨n, 0, none⟩))) (g := fun a => Sem.pure (Value.pointer (some a)))
      (R2 := VRel) (fun N' ρ' x y _ _ hR => Sim.pure (by rw [hR.1]; exact VR_of hR.2)) h x h' he D w hcov hwf hN hr
    obtain ⟨ρ', y, w', q1, q2⟩ := this
    refine ⟨ρ', y, w', ?_, q2⟩
    unfold Instr.alloc
    rw [Sem.run_bind, r1]
    exact q1
def aBox (t : TypeId) (v : Value) : AM Value := (aNewRow t v.cells.toList).bind fun n => .pure (.pointer (some ⟨n, 0, none⟩))
theorem aBox_sound {P : Program} {N : Nat → Prop} {ρ : Ren} (hs : SymOk ρ) {t : TypeId} {v v' : Value} (hv : VR N ρ v v') : Sim P N ρ (aBox t v) (Instr.box t v') VRel := by
  have := (aNewRow_sound (P := P) (N := N) (ρ := ρ) (e := t) (cs := v.cells.toList) (c := v'.cells) (LR.cells hs hv)).bind (f := fun n => AM.pure (Value.pointer (some ⟨n, 0, none⟩))) (g := fun a => Sem.pure (Value.pointer (some a)))
      (R2 := VRel) (fun N' ρ' x y _ _ hR => Sim.pure (by rw [hR.1]; exact VR_of hR.2))
  exact this

/-- the symbols are what they are wherever a run begins -/
theorem Sim.withSym {P : Program} {α β : Type} {N : Nat → Prop} {ρ : Ren} {m : AM α} {s : Sem β} {R : (Nat → Prop) → Ren → α → β → Prop} (h : SymOk ρ → Sim P N ρ m s R) : Sim P N ρ m s R := by
  intro h0 x h' e D w hc hwf hN hr
  exact h hr.sym h0 x h' e D w hc hwf hN hr

/-- cells that are written into a row -/
def spliceL (l : List Value) (off : Nat) (cs : List Value) : List Value := l.take off ++ cs ++ l.drop (off + cs.length)
theorem splice_take {l : List Value} {off L : Nat} {vs : List Value} (h : off + vs.length ≤ L) (hL : L ≤ l.length) : (spliceL l off vs).take L = spliceL (l.take L) off vs := by
  unfold spliceL
  have e1 : l = l.take L ++ l.drop L := (List.take_append_drop L l).symm
  have e2 : l.take off = (l.take L).take off := by rw [List.take_take, Nat.min_eq_left (by omega)]
  have e3 : l.drop (off + vs.length) = (l.take L).drop (off + vs.length) ++ l.drop L := by
    have : (l.take L ++ l.drop L).drop (off + vs.length) = (l.take L).drop (off + vs.length) ++ l.drop L := by
      rw [List.drop_append_of_le_length (by rw [List.length_take]; omega)]
    rw [← this, List.take_append_drop]
  rw [e2, e3, ← List.append_assoc]
  refine List.take_left' ?_
  simp only [List.length_append, List.length_take, List.length_drop]
  omega
theorem splice_len {l vs : List Value} {off : Nat} (h : off + vs.length ≤ l.length) : (spliceL l off vs).length = l.length := by
  unfold spliceL
  simp only [List.length_append, List.length_take, List.length_drop]
  omega
theorem LR.splice {N : Nat → Prop} {ρ : Ren} {l l' vs vs' : List Value} {off : Nat} (h : LR N ρ l l') (k : LR N ρ vs vs') : LR N ρ (spliceL l off vs) (spliceL l' off vs') := fun r hr => by
  unfold spliceL
  rw [List.map_append, List.map_append, List.map_take, List.map_drop, h r hr, k r hr, k.length]
def aWrite (b off : Nat) (cs : List Value) : AM Unit :=
  if cs.all Value.oneCell' && decide (b < 4611686018427387904) then
    (AM.look b).bind fun
      | .row l e op mk => if off + cs.length ≤ l.length then AM.put b (some (.row (spliceL l off cs) e op mk)) else .fail
      | _ => .fail
  else .fail
theorem aWrite_sound {P : Program} {N : Nat → Prop} {ρ : Ren} {b off : Nat} {cs cs' : List Value} (hc : LR N ρ cs cs') : Sim P N ρ (aWrite b off cs) (storeCells ⟨ρ.φ b, off, none⟩ cs') (fun _ _ _ _ => True) := by
  refine Sim.withSym fun hsym => ?_
  unfold aWrite
  split
  case isFalse => exact Sim.fail
  case isTrue hone =>
    rw [Bool.and_eq_true, decide_eq_true_eq] at hone
    intro h x h' he D w hcov hwf hN hr
    obtain ⟨ob, h1, e1, e2⟩ := AM.bind_some he
    obtain ⟨g1, rfl⟩ := AM.look_some e1
    cases ob with
    | map es cl => cases e2
    | iter m s e t => cases e2
    | row l e op mk =>
      dsimp only at e2
      split at e2
      case isFalse => cases e2
      case isTrue hlen =>
        have m2 := (AM.put b _).mono _ _ _ e2
        have hDb : D b := (hcov.of m2).look
        obtain ⟨_, rfl⟩ := AM.put_some e2
        have hbn : b < h.next := by
          rcases Nat.lt_or_ge b h.next with hh | hh
          · exact hh
          · rw [hwf b hh] at g1; cases g1
        have hls := look_step (n := b) hr
        rw [Grow.eq_self] at hls
        obtain ⟨c, fr, q1, q2, q4, q5, q6⟩ := hr.holds b _ hDb g1
        have hl' : cs'.length = cs.length := hc.length
        have hone' : ∀ v ∈ cs', v.oneCell' = true := fun v hv => by
          rw [← hc.eq] at hv
          obtain ⟨u, hu, rfl⟩ := List.mem_map.1 hv
          rw [oneCell_ren hsym]
          exact (List.all_eq_true.1 hone.1) u hu
        have hrun : (storeCells ⟨ρ.φ b, off, none⟩ cs').run P w = .ok () (w.setCells (ρ.φ b) off cs') := by
          have := run_storeCells_cells (P := P) (ρ.φ b) off cs' 0 w (fun j hj => ?_) (fun j hj => ?_) hone'
          · simpa using this
          · have hlt : off + j < c.size := by omega
            simp [World.cell?, q1, hlt]
          · have hlt : off + j < c.size := by omega
            simp only [World.frozen?, q1, Nat.add_zero]
            cases mk with
            | true =>
              rw [if_pos rfl] at q4
              obtain ⟨f1, f2⟩ := fr
              simp only [Bool.and_eq_false_iff, decide_eq_false_iff_not]
              dsimp only at q4
              omega
            | false =>
              rw [if_neg (by simp)] at q4
              subst q4
              simp
        have hc' := heap_setCells (b := ρ.φ b) cs' off c w q1 (by omega)
        have hcl : c.toList.length = c.size := Array.length_toList
        have hrest := rest_setCells (b := ρ.φ b) cs' off w
        have hpl : (spliceL l off cs).length = l.length := splice_len hlen
        have hsb : (({ h with tch := note h.base b h.tch } : AH).get b).isSome := by
          show (h.get b).isSome
          rw [g1]; rfl
        have hps := put_step (D := D) (N := N) (h := { h with tch := note h.base b h.tch }) (ρ := ρ) (w := w) (w' := w.setCells (ρ.φ b) off cs') (n := b) (o := .row (spliceL l off cs) e op mk) hone.2 hDb hsb hbn hls.2
          ⟨_, fr, hc', ?_, ?_, ?_, ?_⟩ hrest.1 hrest.2.1 hrest.2.2.1 (Nat.le_of_eq hrest.2.2.2.symm) (fun i _ hne => heap_setCells_other hne cs' off w)
        · refine ⟨ρ, (), _, hrun, ?_, ?_, trivial⟩
          · exact hls.1.trans hps.1 ⟨Nat.le_refl _, rfl, fun _ h => mem_note_of h, fun _ h => h, fun _ _ h => h, fun _ _ _ _ => rfl, id⟩ m2
          · show Rel D (Grow N h.next h.next) ρ _ _
            rw [Grow.eq_self]; exact hps.2
        · rw [hpl]
          have := splice_take (l := c.toList) (off := off) (L := l.length) (vs := cs') (by omega) (by omega)
          rw [show (List.take off c.toList ++ cs' ++ List.drop (off + cs'.length) c.toList).toArray.toList = spliceL c.toList off cs' from rfl, this]
          exact q2.splice hc
        · have : (List.take off c.toList ++ cs' ++ List.drop (off + cs'.length) c.toList).toArray.size = c.size := by
            have := splice_len (l := c.toList) (vs := cs') (off := off) (by omega)
            simpa [spliceL] using this
          rw [this]; exact q4
        · have : (List.take off c.toList ++ cs' ++ List.drop (off + cs'.length) c.toList).toArray.size = c.size := by
            have := splice_len (l := c.toList) (vs := cs') (off := off) (by omega)
            simpa [spliceL] using this
          rw [this, hpl]; exact q5
        · have : (List.take off c.toList ++ cs' ++ List.drop (off + cs'.length) c.toList).toArray.size = c.size := by
            have := splice_len (l := c.toList) (vs := cs') (off := off) (by omega)
            simpa [spliceL] using this
          rw [this, hpl]; exact q6
def aStore (P : Program) (t : TypeId) (va vx : Value) : AM Unit :=
  match va with
  | .pointer (some ⟨b, off, none⟩) => (match P.info? t with
    | some i => if vx.cells.size = i.size then aWrite b off vx.cells.toList else .fail
    | none => .fail)
  | _ => .fail
theorem aStore_sound {P : Program} {N : Nat → Prop} {ρ : Ren} {t : TypeId} {va va' vx vx' : Value} (ha : VR N ρ va va') (hx : VR N ρ vx vx') : Sim P N ρ (aStore P t va vx) (Instr.storeAt t va' vx') (fun _ _ _ _ => True) := by
  refine Sim.withSym fun hsym => ?_
  unfold aStore
  split
  case h_2 => exact Sim.fail
  case h_1 b off =>
    split
    case h_2 => exact Sim.fail
    case h_1 i hi =>
      split
      case isFalse => exact Sim.fail
      case isTrue hsz =>
        have hva : va' = .pointer (some ⟨ρ.φ b, off, none⟩) := by rw [← ha.eq]; simp [ren, renB, renA]
        have hcs := LR.cells hsym hx
        have hsz' : vx'.cells.size = i.size := by rw [← Array.length_toList, hcs.length, Array.length_toList]; exact hsz
        have hw := aWrite_sound (P := P) (b := b) (off := off) hcs
        intro h x h' he D w hcov hwf hN hr
        obtain ⟨ρ', y, w', q1, q2⟩ := hw h x h' he D w hcov hwf hN hr
        refine ⟨ρ', y, w', ?_, q2⟩
        subst hva
        unfold Instr.storeAt storeVar
        simp [Instr.sureAddr, sizeOf, typeInfo, hi, hsz', q1]
end Go.Proofs.Ytljhlnpbomehkaa
