/- An evaluator of Go code whose memory has names of its own (11): rows that grow, copies, literals. -/
import Derived.Test.YtljhlnpbomehkaaEwJ
namespace Go.Proofs.Ytljhlnpbomehkaa
set_option linter.unusedVariables false
set_option linter.unusedSimpArgs false

/-- the cells of a source: how many elements, what they are -/
def aSrc (size : Nat) : Value → AM (Nat × List Value)
  | .slice none n _ => if n = 0 then .pure (0, []) else .fail
  | .slice (some ⟨b, off, none⟩) m _ => (AM.look b).bind fun
    | .row cs _ _ _ => if off + m * size ≤ cs.length then .pure (m, (cs.drop off).take (m * size)) else .fail
    | _ => .fail
  | .slice (some ⟨_, _, some _⟩) n _ => if n = 0 then .pure (0, []) else .fail
  | _ => .fail
theorem LR.takeDrop {N : Nat → Prop} {ρ : Ren} {l l' : List Value} (h : LR N ρ l l') (a b : Nat) : LR N ρ ((l.drop a).take b) ((l'.drop a).take b) := fun r hr => by rw [List.map_take, List.map_drop, h r hr]
theorem aSrc_sound {P : Program} {size : Nat} {x x' : Value} {h h' : AH} {m : Nat} {cs : List Value} (e : (aSrc size x).run h = some ((m, cs), h')) {D N : Nat → Prop} {ρ : Ren} {w : World} (hc : Cov D h') (hr : Rel D N ρ h.get w) (hx : VR N ρ x x') :
    ∃ cs', LR N ρ cs cs' ∧ cs'.length = m * size ∧ h'.m = h.m ∧ h'.next = h.next ∧ Step D h ρ w h' ρ w ∧ Rel D N ρ h'.get w ∧ (∀ w, (Builtin.lenOf x').run P w = .ok m w) ∧
      ((x' = .slice none 0 0 ∧ m = 0) ∨ (∃ c, x' = .slice none 0 c ∧ m = 0) ∨ ∃ a c, x' = .slice (some a) m c ∧ ∀ j u, cs'[j]? = some u → w.cell? (a.add j) = some u) ∧
      (∀ k, k ≤ m → (Builtin.firstCells size k x').run P w = .ok (cs'.take (k * size)).toArray w) := by
  unfold aSrc at e
  split at e
  case h_3 b off z n c =>
    split at e
    case isFalse => cases e
    case isTrue hn =>
      obtain ⟨e1, rfl⟩ := AM.pure_some e
      injection e1 with e1 e2; subst e1; subst e2
      have hx' : x' = .slice (some (renB ρ ⟨b, off, some z⟩ c)) n (renCap ρ b c) := by rw [← hx.eq]; simp [ren]
      subst hn; subst hx'
      refine ⟨[], fun r _ => rfl, by simp, rfl, rfl, Step.refl _ _ _ _, hr, fun _ => rfl, .inr (.inr ⟨_, _, rfl, fun j u hu => by simp at hu⟩), fun k hk => ?_⟩
      obtain rfl : k = 0 := by omega
      have := run_loadCells_list (P := P) (w := w) (renB ρ ⟨b, off, some z⟩ c) [] (fun j v hv => by simp at hv)
      simpa [Builtin.firstCells] using this
  case h_1 n c =>
    split at e
    case isFalse => cases e
    case isTrue hn =>
      obtain ⟨e1, rfl⟩ := AM.pure_some e
      injection e1 with e1 e2; subst e1; subst e2
      have hx' : x' = .slice none n c := by rw [← hx.eq]; simp [ren]
      subst hn; subst hx'
      refine ⟨[], fun r _ => rfl, by simp, rfl, rfl, Step.refl _ _ _ _, hr, fun _ => rfl, .inr (.inl ⟨c, rfl, rfl⟩), fun k hk => ?_⟩
      obtain rfl : k = 0 := by omega
      simp [Builtin.firstCells]
  case h_2 b off m0 c =>
    obtain ⟨ob, h1, e1, e2⟩ := AM.bind_some e
    obtain ⟨g1, rfl⟩ := AM.look_some e1
    cases ob with
    | map es cl => cases e2
    | iter m s e t => cases e2
    | row l el op mk =>
      dsimp only at e2
      split at e2
      case isFalse => cases e2
      case isTrue hlen =>
        obtain ⟨e3, rfl⟩ := AM.pure_some e2
        injection e3 with e3 e4; subst e3; subst e4
        have hh := hr.holds b _ hc.look g1
        have hra := rangeAt_of hh off ((l.drop off).take (m * size)) (fun j v hv => by
          rw [List.getElem?_take] at hv
          split at hv
          · rwa [List.getElem?_drop] at hv
          · cases hv)
        obtain ⟨ca, fr, q1, q2, _⟩ := hh
        have hls := look_step (n := b) hr
        rw [Grow.eq_self] at hls
        have hx' : x' = .slice (some ⟨ρ.φ b, off, none⟩) m (renCap ρ b c) := by rw [← hx.eq]; simp [ren, renB, renA]
        subst hx'
        refine ⟨((l.drop off).take (m * size)).map (ren ρ), fun r hr2 => ?_, by simp; omega, rfl, rfl, hls.1, hls.2, fun _ => rfl, .inr (.inr ⟨_, _, rfl, fun j u hu => ?_⟩), fun k hk => ?_⟩
        · rw [List.map_take, List.map_drop, List.map_take, List.map_drop, q2 r hr2, q2.eq]
        · rw [Addr.add_mid]; exact hra j u hu
        · show (loadCells _ _).run P w = _
          have hks : k * size ≤ m * size := Nat.mul_le_mul_right _ hk
          have := run_loadCells_list (P := P) (w := w) ⟨ρ.φ b, off, none⟩ (((l.drop off).take (m * size)).map (ren ρ) |>.take (k * size)) (fun j v hv => by
            rw [Addr.add_mid]
            rw [List.getElem?_take] at hv
            split at hv
            · exact hra j v hv
            · cases hv)
          rw [show ((((l.drop off).take (m * size)).map (ren ρ)).take (k * size)).length = k * size from by simp; omega] at this
          exact this
  case h_4 => cases e

def growRow (e : TypeId) (size : Nat) (cs : List Value) (len : Nat) : AM Value := (AM.new (.row cs e size false)).bind fun n => .pure (.slice (some ⟨n, 0, none⟩) len capTop)
def aAppend (P : Program) (t : TypeId) (s x : Value) : AM Value :=
  match P.underlying t with
  | some (.slice e) => (match P.info? e, zeroOf P e with
    | some i, some zs =>
      if zs.length = i.size ∧ 0 < i.size then (aSrc i.size x).bind fun p =>
        if p.2.all Value.oneCell' = true then match s with
          | .slice none n c => if p.1 = 0 ∧ n = 0 ∧ c = 0 then .pure s else if n = 0 ∧ c = 0 ∧ p.1 * i.bytes ≤ 70368744177664 ∧ p.1 ≤ 70368744177664 then growRow e i.size p.2 p.1 else .fail
          | .slice (some ⟨b, off, none⟩) n cap =>
            if cap < capTop ∧ n + p.1 ≤ cap then (aWrite b (off + n * i.size) p.2).bind fun _ => .pure (.slice (some ⟨b, off, none⟩) (n + p.1) cap)
            else if off = 0 ∧ b < 4611686018427387904 ∧ (n + p.1) * i.bytes ≤ 70368744177664 ∧ n + p.1 ≤ 70368744177664 then (AM.look b).bind fun
              | .row cs e' op false =>
                if e' = e ∧ ((op = 0 ∧ cap < capTop ∧ cap * i.size = cs.length ∧ n ≤ cap ∧ cap ≤ 70368744177664) ∨ (op = i.size ∧ cap = capTop ∧ n * i.size ≤ cs.length)) then
                  (if op = i.size ∧ cap = capTop ∧ (n + p.1) * i.size ≤ cs.length then (aWrite b (n * i.size) p.2).bind fun _ => .pure (.slice (some ⟨b, 0, none⟩) (n + p.1) capTop)
                  else (AM.put b none).bind fun _ => growRow e i.size (cs.take (n * i.size) ++ p.2) (n + p.1))
                else .fail
              | _ => .fail
            else .fail
          | _ => .fail
        else .fail
      else .fail
    | _, _ => .fail)
  | _ => .fail

theorem zeroOf_cells {P : Program} {t : TypeId} {cs : List Value} {i : TypeInfo} (h : zeroOf P t = some cs) (hi : P.info? t = some i) : ∃ z, i.zero = some z ∧ z.cells.size = cs.length := by
  unfold zeroOf at h
  rw [hi] at h
  dsimp only at h
  cases hz : i.zero with
  | none => rw [hz] at h; cases h
  | some z =>
    rw [hz] at h
    dsimp only at h
    split at h
    · injection h with h; subst h; exact ⟨z, rfl, by simp⟩
    · cases h

/-- append into the room that there is -/
theorem run_append_fits {P : Program} {t e ty : TypeId} {i : TypeInfo} (ht : P.underlying t = some (.slice e)) (hi : P.info? e = some i) {x' : Value} {m : Nat} {cs' : List Value} {w : World} (hlen : (Builtin.lenOf x').run P w = .ok m w)
    (hfc : (Builtin.firstCells i.size m x').run P w = .ok cs'.toArray w) {a : Addr} {n cap : Nat} (hfit : n + m ≤ cap) {w' : World} (hst : (storeCells (a.add (n * i.size)) cs').run P w = .ok () w') :
    (Builtin.append_ #[t, t] ty #[.slice (some a) n cap, x']).run P w = .ok (.slice (some a) (n + m) cap) w' := by
  simp [Builtin.append_, run_underlying ht, sizeOf, typeInfo, hi, hlen, hfit, hfc, hst]
theorem growRow_mono {e : TypeId} {size : Nat} {cs : List Value} {len : Nat} {h h' : AH} {v : Value} (he : (growRow e size cs len).run h = some (v, h')) :
    v = .slice (some ⟨h.next, 0, none⟩) len capTop ∧ h.next < 4611686018427387904 ∧ h' = { h with m := h.m.set 64 h.next (some (.row cs e size false)), next := h.next + 1 } := by
  obtain ⟨n, h1, e1, e2⟩ := AM.bind_some he
  obtain ⟨rfl, hl, rfl⟩ := AM.new_some e1
  obtain ⟨rfl, rfl⟩ := AM.pure_some e2
  exact ⟨rfl, hl, rfl⟩
theorem owns_some {w : World} {base : Nat} {e : TypeId} {size : Nat} {v : Value} {n : Nat} {xs : List Value} (h : w.ownsRow base e size v n xs) (h0 : 0 < n) :
    ∃ g cap cur, v = .slice (some ⟨g, 0, none⟩) n cap ∧ w.heap[g]? = some (.cells cur e (0, 0)) ∧ n ≤ cap ∧ cap ≤ maxLen ∧ cur.size = cap * size ∧ cur.toList.take (n * size) = xs := by
  rcases h.2 with ⟨_, h1⟩ | ⟨g, cap, cur, h1, _, h2, h3, h4, h5, h6⟩
  · omega
  · exact ⟨g, cap, cur, h1, h2, h3, h4, h5, h6⟩

theorem append_none_absurd {op size cap n m len : Nat} (hrow : (op = 0 ∧ cap < capTop ∧ cap * size = len ∧ n ≤ cap ∧ cap ≤ 70368744177664) ∨ (op = size ∧ cap = capTop ∧ n * size ≤ len))
    (hnfit : ¬ (op = size ∧ cap = capTop ∧ (n + m) * size ≤ len)) (_h : True ∨ True) (_h2 : True ∨ True) (hnin : ¬ (cap < capTop ∧ n + m ≤ cap)) (h0 : m = 0) : False := by
  subst h0
  rcases hrow with ⟨h1, h2, h3, h4, h5⟩ | ⟨h1, h2, h3⟩
  · exact hnin ⟨h2, h4⟩
  · exact hnfit ⟨h1, h2, h3⟩
theorem aWrite_next {b off : Nat} {cs : List Value} {h h' : AH} {u : Unit} (e : (aWrite b off cs).run h = some (u, h')) : h'.next = h.next := by
  unfold aWrite at e
  split at e
  case isFalse => cases e
  case isTrue =>
    obtain ⟨ob, h1, e1, e2⟩ := AM.bind_some e
    obtain ⟨_, rfl⟩ := AM.look_some e1
    cases ob with
    | map es cl => cases e2
    | iter m s e t => cases e2
    | row l e op mk =>
      dsimp only at e2
      split at e2
      case isFalse => cases e2
      case isTrue => obtain ⟨_, rfl⟩ := AM.put_some e2; rfl
theorem aAppend_sound {P : Program} {N : Nat → Prop} {ρ : Ren} {t ty : TypeId} {s s' x x' : Value} (hs : VR N ρ s s') (hx : VR N ρ x x') : Sim P N ρ (aAppend P t s x) (Builtin.append_ #[t, t] ty #[s', x']) VRel := by
  refine Sim.withSym fun hsym => ?_
  intro h v h' he D w hcov hwf hN hr
  unfold aAppend at he
  split at he
  case h_2 => cases he
  case h_1 e ht =>
    split at he
    case h_2 => cases he
    case h_1 i zs hi hzs =>
      split at he
      case isFalse => cases he
      case isTrue hsz =>
        obtain ⟨z, hz, hzc⟩ := zeroOf_cells hzs hi
        obtain ⟨p, h1, e1, e2⟩ := AM.bind_some he
        obtain ⟨m, cs⟩ := p
        have mono1 := (aSrc i.size x).mono _ _ _ e1
        have cov1 : Cov D h1 := hcov.of (AM.mono _ _ _ _ e2)
        obtain ⟨cs', c1, c2, c3, c4, c5, c6, c7, c8, c9⟩ := aSrc_sound (P := P) e1 cov1 hr hx
        have hfc : (Builtin.firstCells i.size m x').run P w = .ok cs'.toArray w := by
          have := c9 m (Nat.le_refl _)
          rwa [List.take_of_length_le (by omega)] at this
        have wf1 : WF h1 := mono1.wf hwf
        have hN1 : New N h1.next h'.next := by rw [c4]; exact hN
        have hG : Grow N h.next h1.next = N := by rw [c4]; exact Grow.eq_self _ _
        have hone' : cs.all Value.oneCell' = true → ∀ v ∈ cs', v.oneCell' = true := fun hone v hv => by
          rw [← c1.eq] at hv
          obtain ⟨u, hu, rfl⟩ := List.mem_map.1 hv
          rw [oneCell_ren hsym]
          exact (List.all_eq_true.1 hone) u hu
        have hownH : ∀ (N' : Nat → Prop) (ρ' : Ren) (nm : Nat) (w' : World) (g cap : Nat) (cur : Array Value) (l l' : List Value) (len : Nat), LR N' ρ' l l' → l'.length = len * i.size → len ≤ cap → cap ≤ maxLen → cur.size = cap * i.size → cur.toList.take (len * i.size) = l' →
            w'.heap[g]? = some (.cells cur e (0, 0)) → ρ'.φ nm = g → ρ'.κ nm = cap → Holds N' ρ' nm w' (.row l e i.size false) := fun N' ρ' nm w' g cap cur l l' len a1 a2 a3 a4 a5 a6 a7 a8 a9 => by
          have hll : l.length = len * i.size := by rw [← a1.length, a2]
          have hmul : len * i.size ≤ cap * i.size := Nat.mul_le_mul_right _ a3
          refine ⟨cur, (0, 0), by rw [a8]; exact a7, by rw [hll, a6]; exact a1, rfl, by omega, ?_⟩
          rw [if_neg (by omega), a9]
          exact ⟨a5, a4⟩
        dsimp only at e2
        split at e2
        case isFalse => cases e2
        case isTrue hone =>
        split at e2
        case h_3 => cases e2
        case h_1 n c =>
          have hs' : s' = .slice none n c := by rw [← hs.eq]; simp [ren]
          subst hs'
          split at e2
          case isTrue hz0 =>
            obtain ⟨hm0, rfl, rfl⟩ := hz0
            subst hm0
            obtain ⟨rfl, rfl⟩ := AM.pure_some e2
            have hcs : cs' = [] := List.eq_nil_of_length_eq_zero (by omega)
            subst hcs
            refine ⟨ρ, .slice none 0 0, w, ?_, c5, by rw [hG]; exact c6, by rw [hG]; exact hs⟩
            simp [Builtin.append_, run_underlying ht, sizeOf, typeInfo, hi, c7, hfc]
          case isFalse hnz =>
            split at e2
            case isFalse => cases e2
            case isTrue hb =>
              obtain ⟨rfl, rfl, hb1, hb2⟩ := hb
              have hm0 : m ≠ 0 := fun e => hnz ⟨e, rfl, rfl⟩
              obtain ⟨rfl, hl, rfl⟩ := growRow_mono e2
              rcases c8 with ⟨_, h0⟩ | ⟨_, _, h0⟩ | ⟨a, ca, hxe, hcell⟩
              · exact absurd h0 hm0
              · exact absurd h0 hm0
              subst hxe
              obtain ⟨v', w', r1, r2, r3, r4, r5⟩ := run_append_own_at (P := P) w 0 t ty e i z i.size i.bytes ht hi hz rfl rfl (by omega) hsz.2 (.slice none 0 0) 0 [] (World.ownsRow_nil _ _ _ _) a m ca cs' c2 hcell (hone' hone) (by unfold maxLen; omega) (by rw [Nat.zero_add]; omega) (Nat.zero_le _)
              rw [Nat.zero_add] at r2
              obtain ⟨g, cap, cur, rfl, q2, q3, q4, q5, q6⟩ := owns_some r2 (by omega)
              have hg : g = w.heap.size := by
                rcases r5 with h5 | h5
                · simp [Value.ownBlock] at h5
                · simpa [Value.ownBlock] using h5
              subst hg
              have hNn : ¬ N h1.next := hN1 h1.next ⟨Nat.le_refl _, Nat.lt_succ_self _⟩
              have hst := new_step (D := D) (w' := w') (o := .row cs e i.size false) hl wf1 hNn c6 w.heap.size cap (Nat.le_refl _)
                (hownH _ _ h1.next w' w.heap.size cap cur cs cs' m (c1.mono (Ren.at_agree ρ hNn) (fun _ h => .inl h)) c2 q3 q4 q5 (by rw [q6]; simp) q2 (Ren.at_φ _ _ _ _) (Ren.at_κ _ _ _ _))
                r3.os r3.tape r3.output r3.size (fun k hk => r3.block k hk (by simp [Value.ownBlock]))
              refine ⟨_, _, w', r1, c5.trans hst.1 mono1 (AM.mono _ _ _ _ e2), ?_, ?_⟩
              · have := hst.2
                rw [c4] at this ⊢
                exact this
              · rw [c4]
                simp only [Nat.zero_add]
                exact VR_slice (by simp [capTop])
        case h_2 b off n cap =>
          have hs' : s' = .slice (some ⟨ρ.φ b, off, none⟩) n (renCap ρ b cap) := by rw [← hs.eq]; simp [ren, renB, renA]
          split at e2
          case isTrue hin =>
            -- into the room that there is
            obtain ⟨u, h2, e3, e4⟩ := AM.bind_some e2
            obtain ⟨rfl, rfl⟩ := AM.pure_some e4
            obtain ⟨ρ', y, w', r1, r2, r3, _⟩ := aWrite_sound (P := P) (b := b) (off := off + n * i.size) c1 h1 u h' e3 D w hcov wf1 hN1 c6
            have hnx : h'.next = h1.next := aWrite_next e3
            refine ⟨ρ', .slice (some ⟨ρ.φ b, off, none⟩) (n + m) (renCap ρ b cap), w', ?_, c5.trans r2 mono1 (AM.mono _ _ _ _ e3), ?_, ?_⟩
            · rw [hs']
              refine run_append_fits ht hi (c7 w) hfc ?_ ?_
              · unfold renCap; rw [if_neg (by omega)]; exact hin.2
              · rw [Addr.add_mid]; exact r1
            · rw [c4] at r3; exact r3
            · have hag : Agree N ρ ρ' := agree_step r2 hN1
              have : VR N ρ (.slice (some ⟨b, off, none⟩) (n + m) cap) (.slice (some ⟨ρ.φ b, off, none⟩) (n + m) (renCap ρ b cap)) := fun r hr2 => by
                have := hs r hr2
                rw [hs'] at this
                simp only [ren, Value.slice.injEq] at this ⊢
                exact ⟨this.1, trivial, this.2.2⟩
              exact this.mono hag (fun _ h => .inl h)
          case isFalse hnin =>
            split at e2
            case isFalse => cases e2
            case isTrue hb =>
              obtain ⟨rfl, hb0, hb1, hb2⟩ := hb
              obtain ⟨ob, h2, e3, e4⟩ := AM.bind_some e2
              obtain ⟨g1, rfl⟩ := AM.look_some e3
              have cov2 := hcov.of (AM.mono _ _ _ _ e4)
              have hDb : D b := cov2.look
              split at e4
              case h_2 => cases e4
              case h_1 rcs e' op =>
                split at e4
                case isFalse => cases e4
                case isTrue hrow =>
                  obtain ⟨rfl, hrow⟩ := hrow
                  have hls := look_step (n := b) c6
                  rw [Grow.eq_self] at hls
                  have hh := c6.holds b _ hDb g1
                  obtain ⟨ca, fr, q1, q2, q4, q5, q6⟩ := hh
                  rw [if_neg (by simp)] at q4
                  subst q4
                  have hbn : b < h1.next := by
                    rcases Nat.lt_or_ge b h1.next with hh | hh
                    · exact hh
                    · rw [wf1 b hh] at g1; cases g1
                  -- what the slice is
                  have hown : ∃ cc, s' = .slice (some ⟨ρ.φ b, 0, none⟩) n cc ∧ n ≤ cc ∧ cc ≤ maxLen ∧ ca.size = cc * i.size ∧ n * i.size ≤ rcs.length ∧ (op = i.size ∧ cap = capTop → cc = ρ.κ b) := by
                    rcases hrow with ⟨g2, g3, g4, g5, g6⟩ | ⟨g2, g3, g4⟩
                    · rw [if_pos g2] at q6
                      refine ⟨cap, ?_, g5, by unfold maxLen; omega, by rw [q6, ← g4], by rw [← g4]; exact Nat.mul_le_mul_right _ g5, fun h => by omega⟩
                      rw [hs']; unfold renCap; rw [if_neg (by omega)]
                    · rw [if_neg (by omega)] at q6
                      refine ⟨ρ.κ b, ?_, ?_, q6.2, by rw [q6.1, g2], g4, fun _ => rfl⟩
                      · rw [hs']; unfold renCap; rw [if_pos (by omega)]; simp [g3]
                      · have h1 : n * i.size ≤ ρ.κ b * i.size := by rw [← g2, ← q6.1, g2]; omega
                        exact Nat.le_of_mul_le_mul_right h1 hsz.2
                  obtain ⟨cc, o1, o2, o3, o4, o5, o6⟩ := hown
                  split at e4
                  case isTrue hfit =>
                    obtain ⟨u, h2, e5, e6⟩ := AM.bind_some e4
                    obtain ⟨rfl, rfl⟩ := AM.pure_some e6
                    obtain ⟨ρ', y, w', r1, r2, r3, _⟩ := aWrite_sound (P := P) (b := b) (off := n * i.size) c1 _ u h' e5 D w hcov wf1 hN1 hls.2
                    have hstep := (c5.trans hls.1 mono1 (AM.mono _ _ _ _ e3)).trans r2 (mono1.trans (AM.mono _ _ _ _ e3)) (AM.mono _ _ _ _ e5)
                    refine ⟨ρ', .slice (some ⟨ρ.φ b, 0, none⟩) (n + m) (renCap ρ b cap), w', ?_, hstep, ?_, ?_⟩
                    · rw [hs']
                      refine run_append_fits ht hi (c7 w) hfc ?_ ?_
                      · rw [o1] at hs'
                        injection hs' with _ _ hcc
                        rw [← hcc]
                        have h1 : (n + m) * i.size ≤ cc * i.size := by omega
                        exact Nat.le_of_mul_le_mul_right h1 hsz.2
                      · rw [Addr.add_mid, Nat.zero_add]; exact r1
                    · rw [← c4]; exact r3
                    · have hag : Agree N ρ ρ' := agree_step r2 hN1
                      have : VR N ρ (.slice (some ⟨b, 0, none⟩) (n + m) capTop) (.slice (some ⟨ρ.φ b, 0, none⟩) (n + m) (renCap ρ b cap)) := fun r hr2 => by
                        have := hs r hr2
                        rw [hs', hfit.2.1] at this
                        rw [hfit.2.1]
                        simp only [ren, Value.slice.injEq] at this ⊢
                        exact ⟨this.1, trivial, this.2.2⟩
                      rw [← c4]
                      exact this.mono hag (fun _ h => .inl h)
                  case isFalse hnfit =>
                    obtain ⟨u, h2, e5, e6⟩ := AM.bind_some e4
                    obtain ⟨_, rfl⟩ := AM.put_some e5
                    obtain ⟨rfl, hl, rfl⟩ := growRow_mono e6
                    -- m is not 0 here, or it fits
                    have hxs : LR N ρ (rcs.take (n * i.size)) (ca.toList.take (n * i.size)) := by
                      have := q2.takeDrop 0 (n * i.size)
                      rw [List.drop_zero, List.drop_zero, List.take_take, Nat.min_eq_left o5] at this
                      exact this
                    have hxl : (ca.toList.take (n * i.size)).length = n * i.size := by rw [hxs.length, List.length_take]; omega
                    have hown : w.ownsRow 0 e' i.size s' n (ca.toList.take (n * i.size)) := ⟨hxl, .inr ⟨ρ.φ b, cc, ca, o1, Nat.zero_le _, q1, o2, o3, o4, rfl⟩⟩
                    rcases c8 with ⟨hx0, h0⟩ | ⟨_, hx0, h0⟩ | ⟨a, cx, hxe, hcell⟩
                    · exact (append_none_absurd hrow hnfit (.inl trivial) (.inl trivial) hnin h0).elim
                    · exact (append_none_absurd hrow hnfit (.inl trivial) (.inl trivial) hnin h0).elim
                    subst hxe
                    have hm0 : m ≠ 0 := fun h0 => append_none_absurd hrow hnfit (.inl trivial) (.inl trivial) hnin h0
                    obtain ⟨v', w', r1, r2, r3, r4, r5⟩ := run_append_own_at (P := P) w 0 t ty e' i z i.size i.bytes ht hi hz rfl rfl (by omega) hsz.2 s' n _ hown a m cx cs' c2 hcell (hone' hone) (by unfold maxLen; omega) (by omega) (Nat.zero_le _)
                    obtain ⟨g, cap', cur, rfl, p2, p3, p4, p5, p6⟩ := owns_some r2 (by omega)
                    have hg : g = ρ.φ b ∨ w.heap.size ≤ g := by
                      rw [o1] at r5
                      rcases r5 with h5 | h5
                      · left; simpa [Value.ownBlock] using h5
                      · right; simp [Value.ownBlock] at h5; omega
                    have hNn : ¬ N h1.next := hN1 h1.next ⟨Nat.le_refl _, Nat.lt_succ_self _⟩
                    have hst := grown_step (D := D) (h := { h1 with tch := note h1.base b h1.tch }) (w' := w') (o := .row (rcs.take (n * i.size) ++ cs) e' i.size false) hb0 hl wf1 hNn hDb (by show (h1.get b).isSome; rw [g1]; rfl) hbn hls.2 g cap' hg
                      (hownH _ _ h1.next w' g cap' cur _ _ (n + m) ((hxs.append c1).mono (Ren.at_agree ρ hNn) (fun _ h => .inl h)) (by rw [List.length_append, hxl, c2, Nat.add_mul]) p3 p4 p5 p6 p2 (Ren.at_φ _ _ _ _) (Ren.at_κ _ _ _ _))
                      r3.os r3.tape r3.output r3.size (fun k hk hne => r3.block k hk (by rw [o1]; simp [Value.ownBlock]; omega))
                    refine ⟨_, _, w', r1, (c5.trans hls.1 mono1 (AM.mono _ _ _ _ e3)).trans hst.1 (mono1.trans (AM.mono _ _ _ _ e3)) ((AM.mono _ _ _ _ e5).trans (AM.mono _ _ _ _ e6)), ?_, ?_⟩
                    · rw [← c4]; exact hst.2
                    · rw [← c4]; exact VR_slice (by simp [capTop])
end Go.Proofs.Ytljhlnpbomehkaa
