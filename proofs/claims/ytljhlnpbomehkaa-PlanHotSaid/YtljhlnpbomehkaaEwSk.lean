/- An evaluator of Go code whose memory has names of its own (28): the keys of a map, sorted (slices.Sorted(maps.Keys(m))), as one step. -/
import Derived.Test.YtljhlnpbomehkaaEwQ
import Derived.WideShapes
import Derived.Sort.KeysCollected
import Derived.Maps.Own
import Derived.StringKeys
namespace Go.Proofs.Ytljhlnpbomehkaa
open Go.RowKit Go.Maps Go.MapKept
open Go.WideElems (Fit rd rg)
open Go.WideMaps (keyOf_string_mk)
set_option linter.unusedVariables false
set_option linter.unusedSimpArgs false

def strsOf : List Value → Option (List ByteArray)
  | [] => some []
  | v :: r => match v with
    | .string s => (strsOf r).map (s :: ·)
    | _ => none
theorem strsOf_eq : ∀ {l : List Value} {ks : List ByteArray}, strsOf l = some ks → l = ks.map Value.string
  | [], ks, h => by simp only [strsOf, Option.some.injEq] at h; subst h; rfl
  | v :: r, ks, h => by
    simp only [strsOf] at h
    split at h
    · rename_i s
      cases hr : strsOf r with
      | none => rw [hr] at h; cases h
      | some l => rw [hr] at h; simp only [Option.map_some, Option.some.injEq] at h; subst h; rw [strsOf_eq hr]; rfl
    · cases h
/-- a sort that the kernel can run -/
def insB (x : List UInt8) : List (List UInt8) → List (List UInt8)
  | [] => [x]
  | y :: r => if leB x y then x :: y :: r else y :: insB x r
def sortB : List (List UInt8) → List (List UInt8)
  | [] => []
  | x :: r => insB x (sortB r)
theorem insB_perm (x : List UInt8) : ∀ l, (insB x l).Perm (x :: l)
  | [] => List.Perm.refl _
  | y :: r => by
    unfold insB
    split
    · exact List.Perm.refl _
    · exact ((insB_perm x r).cons y).trans (List.Perm.swap x y r)
theorem sortB_perm : ∀ l, (sortB l).Perm l
  | [] => List.Perm.refl _
  | x :: r => (insB_perm x _).trans ((sortB_perm r).cons x)
theorem leB_trans (a b c : List UInt8) (h1 : leB a b = true) (h2 : leB b c = true) : leB a c = true := by simp only [leB, decide_eq_true_eq] at *; exact List.le_trans h1 h2
theorem leB_total (a b : List UInt8) : (leB a b || leB b a) = true := by simp only [leB, Bool.or_eq_true, decide_eq_true_eq]; exact List.le_total a b
theorem insB_sorted (x : List UInt8) : ∀ l, l.Pairwise (fun a b => leB a b = true) → (insB x l).Pairwise (fun a b => leB a b = true)
  | [], _ => by simp [insB]
  | y :: r, h => by
    have hy := List.pairwise_cons.1 h
    unfold insB
    split
    · rename_i hxy
      refine List.pairwise_cons.2 ⟨fun z hz => ?_, h⟩
      rcases List.mem_cons.1 hz with rfl | hz
      · exact hxy
      · exact leB_trans _ _ _ hxy (hy.1 z hz)
    · rename_i hxy
      refine List.pairwise_cons.2 ⟨fun z hz => ?_, insB_sorted x r hy.2⟩
      rcases List.mem_cons.1 ((insB_perm x r).mem_iff.1 hz) with rfl | hz
      · have := leB_total z y
        rw [Bool.or_eq_true] at this
        exact this.resolve_left hxy
      · exact hy.1 z hz
theorem sortB_sorted : ∀ l, (sortB l).Pairwise (fun a b => leB a b = true)
  | [] => List.Pairwise.nil
  | x :: r => insB_sorted x _ (sortB_sorted r)
theorem mergeSort_eq {ss l : List (List UInt8)} (h : ss.Perm l) : ss.mergeSort leB = sortB l := by
  rw [mergeSort_of_perm (h.trans (sortB_perm l).symm)]
  exact List.mergeSort_of_pairwise (sortB_sorted l)

/-- what the library says of slices.Sorted(maps.Keys(m)) at a map type of text keys: f: slices.Sorted, g: what maps.Keys hands back -/
structure SortedKeysAt (P : Program) (f g : FuncId) (kt : TypeId) : Prop where
  str : P.underlying kt = some .string
  some : ∀ (W : World) (Bm b nn : Nat) (D0 : DataW Unit) (R : Value → Option (DataW Unit × List MemPlace)), Bm < W.heap.size → W.cell? ⟨Bm, 0, none⟩ = some (.map (some b)) → W.ownsMap P kt R b nn D0 → Maps.size D0 ≤ 1000000 →
    Calls P f #[.func (.func g) #[] #[.pointer (some ⟨Bm, 0, none⟩)]] W fun e w' => ∃ (v : Value) (ss : List (List UInt8)), e = .returned v ∧ ss.Perm (strKeys D0) ∧
      w'.ownsRow W.heap.size kt 1 v ss.length ((ss.mergeSort leB).map encStr) ∧ (v = .slice none 0 0 ↔ ss = []) ∧ Below W.heap.size W w'
def stampB (es : List MapEntry) (cl : Nat) (ks : List ByteArray) : Bool :=
  (es.all fun e => decide (e.born < cl)) && (decide (es.map (·.born)).Nodup && (decide ks.Nodup && (decide (es.length ≤ 1000) && ks.all fun k => decide (k.size ≤ 1000))))
def aSortedKeys (kt : TypeId) (gs : List FuncId) (args : Array Value) : AM Value :=
  match args.toList with
  | [.func (.func g') first cap] => (match first.toList, cap.toList with
    | [], [.pointer (some ⟨bx, 0, none⟩)] => if gs.contains g' then (AM.look bx).bind fun
      | .row (.map (some r) :: _) _ _ _ => (AM.look r).bind fun
        | .map es cl => (match strsOf (es.map (·.key)) with
          | some ks => if stampB es cl ks then (match sortB (ks.map fun k => k.data.toList) with
            | [] => .pure (.slice none 0 0)
            | x :: l => (AM.new (.row ((x :: l).map encStr) kt 1 false)).bind fun n => .pure (.slice (some ⟨n, 0, none⟩) (l.length + 1) capTop)) else .fail
          | none => .fail)
        | _ => .fail
      | _ => .fail
      else .fail
    | _, _ => .fail)
  | _ => .fail
theorem born_eq {N : Nat → Prop} {ρ : Ren} : ∀ {es es' : List MapEntry}, EsR N ρ es es' → es'.map (·.born) = es.map (·.born) := fun {es es'} h => by
  apply List.ext_getElem?
  intro i
  rw [List.getElem?_map, List.getElem?_map]
  cases he : es[i]? with
  | none =>
    have : es'[i]? = none := by rw [List.getElem?_eq_none_iff] at he ⊢; rw [h.len]; exact he
    rw [this]
  | some e =>
    obtain ⟨e', h1, h2⟩ := h.at_ i e he
    rw [h1]; simp [h2.born]
theorem owns_of {P : Program} {kt : TypeId} (hs : P.underlying kt = some .string) {w : World} {b cl : Nat} {es' : Array MapEntry} {ks : List ByteArray} (hb : w.heap[b]? = some (.map es' cl)) (hk : es'.toList.map (·.key) = ks.map Value.string)
    (h1 : ∀ x ∈ es'.toList, x.born < cl) (h2 : (es'.toList.map (·.born)).Nodup) (h3 : ks.Nodup) (h4 : es'.size ≤ 1000) (h5 : ∀ k ∈ ks, k.size ≤ 1000) :
    ∃ D0 : DataW Unit, w.ownsMap P kt (fun _ => some (.nil, [])) b es'.size D0 ∧ (ks.map fun k => k.data.toList).Perm (strKeys D0) ∧ Maps.size D0 = es'.size := by
  have hkey : ∀ x ∈ es'.toList, ∃ s ∈ ks, x.key = .string s := fun x hx => by
    have : x.key ∈ es'.toList.map (·.key) := List.mem_map.2 ⟨x, hx, rfl⟩
    rw [hk] at this
    obtain ⟨s, h, e⟩ := List.mem_map.1 this
    exact ⟨s, h, e.symm⟩
  have hrd : ∀ x ∈ es'.toList, ∀ s, x.key = .string s → s ∈ ks → rd P kt (fun _ => some ((.nil : DataW Unit), [])) x = some (.string s.data.toList, .nil) := fun x hx s e hs' => by
    unfold rd
    rw [e, keyOf_string_mk hs (by have := h5 s hs'; unfold maxLen; omega)]
    rfl
  have F : Fit P kt (fun _ => some ((.nil : DataW Unit), [])) es' cl := ⟨by unfold maxLen; omega, ⟨h1, h2, by
      rw [hk]
      unfold List.Nodup at h3 ⊢
      rw [List.pairwise_map]
      exact h3.imp (fun hne e => hne (by injection e))⟩, fun x hx => by
      obtain ⟨s, hs', e⟩ := hkey x hx
      exact ⟨_, hrd x hx s e hs'⟩⟩
  refine ⟨_, ⟨es', cl, hb, F, Nat.le_refl _, rfl⟩, ?_, ?_⟩
  · unfold strKeys
    have hp := (WideShapes.sorted_perm (es'.toList.map (rg P kt (fun _ => some ((.nil : DataW Unit), []))))).map (fun p => strOf p.1)
    refine List.Perm.trans (List.Perm.of_eq ?_) hp.symm
    have e1 : ks.map (fun k => k.data.toList) = (ks.map Value.string).map (fun v => match v with | .string s => s.data.toList | _ => []) := by rw [List.map_map]; rfl
    rw [e1, ← hk, List.map_map, List.map_map]
    refine List.map_congr_left fun x hx => ?_
    obtain ⟨s, hs', e⟩ := hkey x hx
    simp only [Function.comp, e, rg, hrd x hx s e hs', Option.getD_some, strOf]
  · show ((es'.toList.map _).foldr DataW.insert []).length = _
    rw [(WideShapes.sorted_perm _).length_eq]; simp
theorem LR.strings {N : Nat → Prop} {ρ : Ren} (l : List (List UInt8)) : LR N ρ (l.map encStr) (l.map encStr) := fun r _ => by
  rw [List.map_map]
  exact List.map_congr_left fun x _ => by simp [ren]
theorem aSortedKeys_sound {P : Program} {f : FuncId} {gs : List FuncId} {kt : TypeId} (hks : ∀ g ∈ gs, SortedKeysAt P f g kt) : FunOK P f (aSortedKeys kt gs) := by
  intro args args' N ρ ha h v h' he D w hcov hwf hN hr
  unfold aSortedKeys at he
  split at he
  case h_2 => cases he
  case h_1 g' first cap hargs =>
    split at he
    case h_2 => cases he
    case h_1 bx hfirst hcap =>
      split at he
      case isFalse => cases he
      case isTrue hg =>
        have hk := hks g' (by simpa using hg)
        obtain ⟨ob, h1, e1, e2⟩ := AM.bind_some he
        have cov1 : Cov D h1 := hcov.of (AM.mono _ _ _ _ e2)
        have mono1 := (AM.look bx).mono _ _ _ e1
        obtain ⟨g1, rfl⟩ := AM.look_some e1
        have hls := look_step (n := bx) hr
        rw [Grow.eq_self] at hls
        split at e2
        case h_2 => cases e2
        case h_1 r cs0 el op mk =>
          obtain ⟨ob2, h2, e3, e4⟩ := AM.bind_some e2
          have cov2 : Cov D h2 := hcov.of (AM.mono _ _ _ _ e4)
          have mono2 := (AM.look r).mono _ _ _ e3
          split at e4
          case h_2 => cases e4
          case h_1 es cl =>
            obtain ⟨es', b1, b2, b3, b4, b5, b6, b7, b8⟩ := look_map e3 cov2 hls.2
            split at e4
            case h_2 => cases e4
            case h_1 ks hks =>
              split at e4
              case isFalse => cases e4
              case isTrue hst =>
                unfold stampB at hst
                simp only [Bool.and_eq_true, decide_eq_true_eq, List.all_eq_true] at hst
                obtain ⟨s1, s2, s3, s4, s5⟩ := hst
                have hkeys0 := strsOf_eq hks
                have hsh : (es.map (·.key)).all shut = true := by
                  rw [hkeys0, List.all_eq_true]
                  intro x hx
                  obtain ⟨s, _, rfl⟩ := List.mem_map.1 hx
                  rfl
                have hkeys : es'.toList.map (·.key) = ks.map Value.string := (b2.keys hsh).trans hkeys0
                have hborn := born_eq b2
                have hlen : es'.size = es.length := by rw [← Array.length_toList]; exact b2.len
                have hlk : ks.length = es.length := by
                  have := congrArg List.length hkeys0
                  simpa using this.symm
                obtain ⟨D0, o1, o2, o3⟩ := owns_of hk.str b1 hkeys (fun x hx => by
                  have hm : x.born ∈ es'.toList.map (·.born) := List.mem_map.2 ⟨x, hx, rfl⟩
                  rw [hborn] at hm
                  obtain ⟨y, hy, e⟩ := List.mem_map.1 hm
                  rw [← e]; exact s1 y hy) (by rw [hborn]; exact s2) s3 (by omega) s5
                have hcell : w.cell? ⟨ρ.φ bx, 0, none⟩ = some (.map (some (ρ.φ r))) := by
                  have hh := hr.holds bx _ cov1.look g1
                  have hra := rangeAt_of hh 0 [.map (some r)] (fun j v hv => by
                    cases j with
                    | zero => simpa using hv
                    | succ j => simp at hv)
                  have := hra 0 (.map (some (ρ.φ r))) (by simp [ren])
                  simpa using this
                have hbx : ρ.φ bx < w.heap.size := (hr.holds bx _ cov1.look g1).lt
                have hargs' : args' = #[.func (.func g') #[] #[.pointer (some ⟨ρ.φ bx, 0, none⟩)]] := by
                  have h3 := ha.eq
                  rw [hargs] at h3
                  have f1 : first = #[] := by apply Array.ext'; simpa using hfirst
                  have f2 : cap = #[.pointer (some ⟨bx, 0, none⟩)] := by apply Array.ext'; simpa using hcap
                  subst f1; subst f2
                  apply Array.ext'
                  rw [← h3]
                  simp [ren, renA]
                subst hargs'
                refine (hk.some w _ _ _ D0 _ hbx hcell o1 (by omega)).mono ?_
                rintro e w' ⟨v', ss, rfl, p1, p2, p3, p4⟩
                have hsort := mergeSort_eq (p1.trans o2.symm)
                have hssl : ss.length = ks.length := by
                  have := (p1.trans o2.symm).length_eq
                  simpa using this
                rw [hsort] at p2
                have hG1 : Grow N h.next h.next = N := Grow.eq_self _ _
                split at e4
                case h_1 hnil =>
                  obtain ⟨rfl, rfl⟩ := AM.pure_some e4
                  have hss : ss = [] := by
                    have h4 := (sortB_perm (ks.map fun k => k.data.toList)).length_eq
                    rw [hnil] at h4
                    apply List.eq_nil_of_length_eq_zero
                    rw [hssl]; simpa using h4.symm
                  have hv : v' = .slice none 0 0 := p3.2 hss
                  subst hv
                  have hn : h'.next = h.next := b4
                  rw [hn, hG1]
                  refine ⟨ρ, _, rfl, ?_, ?_, VR.shut rfl⟩
                  · have hst := hls.1.trans b5 mono1 mono2
                    exact ⟨hst.agree, hst.fresh, p4.os, p4.tape, p4.output, p4.size, fun i hi _ => p4.block i hi⟩
                  · exact ⟨b6.inj, fun n o hD ho => (b6.holds n o hD ho).mono (Agree.refl _ _) (fun _ h => h) (b6.known n hD (by rw [ho]; rfl)) (p4.block _ (b6.holds n o hD ho).lt), b6.known, b6.sym, b6.glob⟩
                case h_2 x l hcons =>
                  obtain ⟨nn, h3, e5, e6⟩ := AM.bind_some e4
                  obtain ⟨rfl, hl, rfl⟩ := AM.new_some e5
                  obtain ⟨rfl, rfl⟩ := AM.pure_some e6
                  have h4 := (sortB_perm (ks.map fun k => k.data.toList)).length_eq
                  rw [hcons] at h4 p2
                  have hll : l.length + 1 = ss.length := by rw [hssl]; simpa using h4
                  obtain ⟨gb, cp, cur, rfl, q1, q2, q3, q4, q5, q6⟩ : ∃ gb cp cur, v' = .slice (some ⟨gb, 0, none⟩) ss.length cp ∧ w.heap.size ≤ gb ∧ w'.heap[gb]? = some (.cells cur kt (0, 0)) ∧ ss.length ≤ cp ∧ cp ≤ maxLen ∧ cur.size = cp * 1 ∧ cur.toList.take (ss.length * 1) = (x :: l).map encStr := by
                    rcases p2.2 with ⟨_, h0⟩ | hh
                    · omega
                    · exact hh
                  have hnx : h2.next = h.next := b4
                  have hNn : ¬ N h2.next := by
                    rw [hnx]
                    exact hN h.next ⟨Nat.le_refl _, by show h.next < h2.next + 1; omega⟩
                  have hst := new_step (D := D) (w' := w') (o := .row ((x :: l).map encStr) kt 1 false) hl (mono2.wf (mono1.wf hwf)) hNn b6 gb cp q1
                    ⟨cur, (0, 0), by rw [Ren.at_φ]; exact q2, by
                      rw [show ((x :: l).map encStr).length = ss.length * 1 from by simp; omega, q6]
                      exact LR.strings _, by simp, by
                      rw [q5]; simp; omega, by simp [Ren.at_κ, q5, q4]⟩
                    p4.os p4.tape p4.output p4.size p4.block
                  refine ⟨_, _, rfl, (hls.1.trans b5 mono1 mono2).trans hst.1 (mono1.trans mono2) (AM.mono _ _ _ _ e5), ?_, ?_⟩
                  · have := hst.2
                    rw [hnx] at this ⊢
                    exact this
                  · show VR _ _ (.slice (some ⟨h2.next, 0, none⟩) (l.length + 1) capTop) _
                    rw [hll, hnx]
                    have hvs := VR_slice (N := N) (ρ := ρ) (n := h.next) (b := gb) (k := cp) (o := 0) (len := ss.length) (cap := capTop) (cap' := cp) (by simp [capTop])
                    exact hvs
end Go.Proofs.Ytljhlnpbomehkaa
