/- An evaluator of Go code whose memory has names of its own (13): texts and bytes, parts of slices, whom a call calls. -/
import Derived.Test.YtljhlnpbomehkaaEwL
namespace Go.Proofs.Ytljhlnpbomehkaa
set_option linter.unusedVariables false
set_option linter.unusedSimpArgs false

def numsOf : List Value → Option (List Int)
  | [] => some []
  | .int .u8 n :: r => (numsOf r).map (n :: ·)
  | _ => none
theorem numsOf_eq : ∀ {cs : List Value} {ns : List Int}, numsOf cs = some ns → cs = ns.map (Value.int .u8)
  | [], ns, h => by simp [numsOf] at h; subst h; rfl
  | v :: r, ns, h => by
    unfold numsOf at h
    split at h
    · rename_i e; cases e
    · rename_i n r' e
      injection e with e1 e2; subst e1; subst e2
      cases hr : numsOf r with
      | none => rw [hr] at h; cases h
      | some ms =>
        rw [hr] at h
        simp only [Option.map_some, Option.some.injEq] at h
        subst h
        rw [numsOf_eq hr]; rfl
    · cases h
def strOfInts (ns : List Int) : ByteArray := ns.foldl (fun r n => r.push (UInt8.ofNat n.toNat)) ByteArray.empty
def aConv (P : Program) (src dst : TypeId) (x : Value) : AM Value :=
  match P.underlying src, P.underlying dst, x with
  | some (.slice e), some .string, x => (match P.underlying e with
    | some (.int .u8) => (match x with
      | .slice (some _) _ _ => (aSrc 1 x).bind fun p => (match numsOf p.2 with
        | some ns => .pure (.string (strOfInts ns))
        | none => .fail)
      | _ => .fail)
    | _ => .fail)
  | some _, some (.slice e), .string s => (match P.underlying e with
    | some (.int .u8) => if s.size ≤ 1099511627776 then
        (AM.new (.row (s.data.toList.map fun b => .int .u8 b.toNat) e 1 true)).bind fun n => .pure (.slice (some ⟨n, 0, none⟩) s.size capTop) else .fail
    | _ => .fail)
  | _, _, _ => .fail
theorem aConv_sound {P : Program} {N : Nat → Prop} {ρ : Ren} {src dst : TypeId} {x x' : Value} (hx : VR N ρ x x') : Sim P N ρ (aConv P src dst x) (convert src dst x') VRel := by
  intro h v h' he D w hcov hwf hN hr
  unfold aConv at he
  split at he
  case h_3 => cases he
  case h_1 e hs hd =>
    split at he
    case h_2 => cases he
    case h_1 hu =>
      split at he
      case h_2 => cases he
      case h_1 a n c =>
        obtain ⟨p, h1, e1, e2⟩ := AM.bind_some he
        obtain ⟨m, cs⟩ := p
        cases hn : numsOf cs with
        | none => simp only [hn] at e2; cases e2
        | some ns =>
          simp only [hn] at e2
          obtain ⟨rfl, rfl⟩ := AM.pure_some e2
          obtain ⟨cs', c1, c2, c3, c4, c5, c6, c7, c8, c9⟩ := aSrc_sound (P := P) e1 hcov hr hx
          have hcs := numsOf_eq hn
          have hcs' : cs' = ns.map (Value.int .u8) := by
            rw [← c1.eq, hcs, List.map_map]
            exact List.map_congr_left (fun k _ => by simp [ren])
          have hx' : x' = .slice (some (renB ρ a c)) n (renCap ρ a.block c) := by rw [← hx.eq]; simp [ren]
          have hG : Grow N h.next h'.next = N := by rw [c4]; exact Grow.eq_self _ _
          refine ⟨ρ, .string (strOfInts ns), w, ?_, c5, by rw [hG]; exact c6, VR.shut rfl⟩
          have hm : n = m := by
            have := c7 w
            rw [hx'] at this
            simpa [Builtin.lenOf] using this
          subst hm
          have h9 := c9 n (Nat.le_refl _)
          rw [List.take_of_length_le (by omega), hx'] at h9
          have hl : (loadCells (renB ρ a c) n).run P w = .ok (ns.map (Value.int .u8)).toArray w := by
            rw [← hcs']
            simpa [Builtin.firstCells] using h9
          subst hx'
          simp [convert, run_underlying hs w, run_underlying hd w, run_underlying hu w, run_bytesToString w _ _ _ ns hl, strOfInts]
  case h_2 _ du e s hs hd =>
    split at he
    case h_2 => cases he
    case h_1 hu =>
      split at he
      case isFalse => cases he
      case isTrue hsz =>
        obtain ⟨n, h1, e1, e2⟩ := AM.bind_some he
        obtain ⟨rfl, hl, rfl⟩ := AM.new_some e1
        obtain ⟨rfl, rfl⟩ := AM.pure_some e2
        have hx' : x' = .string s := by rw [← hx.eq]; simp [ren]
        subst hx'
        have hNn : ¬ N h.next := hN h.next ⟨Nat.le_refl _, Nat.lt_succ_self _⟩
        have hcap : grownCap w s.size 0 e ≤ maxLen ∧ s.size ≤ grownCap w s.size 0 e := by
          have h0 : grownCap w s.size 0 e = s.size + (w.tape w.drawn (.appendCap s.size 0 e)) % (2 ^ 63 - s.size) := rfl
          rw [h0]
          unfold maxLen
          have := Nat.mod_lt (w.tape w.drawn (.appendCap s.size 0 e)) (show 0 < 2 ^ 63 - s.size by omega)
          omega
        have hsize : (Lib.bytesCells w e s).size = grownCap w s.size 0 e := by
          simp [Lib.bytesCells]
          have := hcap.2
          omega
        have hst := new_step (D := D) (w' := Lib.bytesWorld w e s) (o := .row (s.data.toList.map fun b => .int .u8 b.toNat) e 1 true) hl hwf hNn hr w.heap.size (grownCap w s.size 0 e) (Nat.le_refl _)
          ⟨Lib.bytesCells w e s, _, by rw [Ren.at_φ]; exact Lib.bytesWorld_at_new w e s, ?_, ?_, ?_, ?_⟩ rfl rfl rfl (by rw [Lib.bytesWorld_size]; omega) (fun i hi => Lib.bytesWorld_at_old w e s i hi)
        · refine ⟨_, _, _, Lib.run_convert_string_bytes w src dst e s hs hd hu, hst.1, hst.2, VR_slice (by simp [capTop])⟩
        · have : (Lib.bytesCells w e s).toList.take (s.data.toList.map fun b => Value.int .u8 b.toNat).length = s.data.toList.map fun b => Value.int .u8 b.toNat := by
            simp [Lib.bytesCells]
          rw [this]
          intro r _
          rw [List.map_map]
          exact List.map_congr_left (fun k _ => by simp [ren])
        · rw [if_pos rfl]; exact .inl (Nat.le_refl _)
        · rw [hsize]
          simp
          have := hcap.2
          exact this
        · rw [if_neg (by omega), Ren.at_κ, hsize]
          exact ⟨by omega, hcap.1⟩

end Go.Proofs.Ytljhlnpbomehkaa
