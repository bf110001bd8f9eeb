/- An evaluator of Go code whose memory has names of its own: keys, or values, of a map of nothing, gathered (slices.AppendSeq): nothing. -/
import Derived.Test.YtljhlnpbomehkaaEwAd
import Derived.Test.YtljhlnpbomehkaaEwT
import Derived.RangeFuncLeaves
import Derived.RangeFuncRecord
import Derived.RangeFuncIn
import Derived.Shelf.Abstract
import Derived.WalkKit
import Derived.TacticsInMore
import Derived.RegionIn
import Derived.Below
namespace Go.Proofs.Ytljhlnpbomehkaa
open Go.RowKit
set_option linter.unusedVariables false
set_option linter.unusedSimpArgs false

/-- an iterator over a map of nothing asks nobody -/
def ItNone (P : Program) (g : FuncId) : Prop := ∀ (l : Nat) (w : World) (Bm : Nat) (m : Option Nat) (t : TypeId), w.heap[Bm]? = some (.cells #[.map m] t (0, 0)) → (∀ b, m = some b → ∃ cl, w.heap[b]? = some (.map #[] cl)) →
  Calls P g #[.func (.yield l) #[] #[], .pointer (some ⟨Bm, 0, none⟩)] w fun e w' => (∃ v, e = .returned v) ∧ Below w.heap.size w w'
def orcX : OrcL := ⟨noOrc, fun _ => none, fun _ => false⟩
def isDone : Option (List (Value × AH)) → Bool
  | some l => l.all fun p => p.2.wrt.isEmpty
  | none => false
def itH (m : Option Nat) (t cl : Nat) : AH := ⟨.nd (some (.row [.map m] t 0 false)) (.nd (some (.map [] cl)) .lf .lf) .lf, 2, 2, [], []⟩
theorem itH_get {m : Option Nat} {t cl : Nat} : ∀ k, (itH m t cl).get k = if k = 0 then some (.row [.map m] t 0 false) else if k = 1 then some (.map [] cl) else none
  | 0 => rfl
  | 1 => rfl
  | k + 2 => by
    have hx : ∀ o n, 0 < n → (Tr.nd o .lf .lf).get n = none := fun o n hn => by
      cases n with
      | zero => omega
      | succ m => simp [Tr.get, Tr.get_lf]
    rw [if_neg (show ¬ k + 2 = 0 by omega), if_neg (show ¬ k + 2 = 1 by omega)]
    simp only [itH, AH.get, Tr.get]
    split
    · exact hx _ _ (by omega)
    · first | exact Tr.get_lf _ | rfl
def itH0 (t : Nat) : AH := ⟨.nd (some (.row [.map none] t 0 false)) .lf .lf, 1, 1, [], []⟩
theorem itH0_get {t : Nat} : ∀ k, (itH0 t).get k = if k = 0 then some (.row [.map none] t 0 false) else none
  | 0 => rfl
  | k + 1 => by
    rw [if_neg (show ¬ k + 1 = 0 by omega)]
    simp only [itH0, AH.get, Tr.get]
    split <;> first | exact Tr.get_lf (k / 2) | rfl
theorem itNone_eval {P : Program} (hm : P.follows .mixedOrders = true) (hn : NameOK P) {g : FuncId} {fuel n : Nat}
    (h0 : ∀ l t, isDone ((lCall P orcX fuel n g #[.func (.yield l) #[] #[], .pointer (some ⟨0, 0, none⟩)]).run (itH0 t)) = true)
    (h1 : ∀ l t cl, isDone ((lCall P orcX fuel n g #[.func (.yield l) #[] #[], .pointer (some ⟨0, 0, none⟩)]).run (itH (some 1) t cl)) = true) : ItNone P g := by
  intro l w Bm m t hb hmm
  have hx : OrcLOK P (fun s => s = fun _ => Value.bool false) orcX := ⟨noOrc_ok _ _, fun f m h => nomatch h⟩
  have close : ∀ (H : AH) (N : Nat → Prop) (φ : Nat → Nat), isDone ((lCall P orcX fuel n g #[.func (.yield l) #[] #[], .pointer (some ⟨0, 0, none⟩)]).run H) = true → φ 0 = Bm → N 0 → H.wrt = [] → H.base = H.next → (∀ k, N k ↔ k < H.next) → WF H → Rel (fun _ => True) N ⟨φ, fun _ => 0, fun _ => .bool false⟩ H.get w →
      Calls P g #[.func (.yield l) #[] #[], .pointer (some ⟨Bm, 0, none⟩)] w fun e w' => (∃ v, e = .returned v) ∧ Below w.heap.size w w' := by
    intro H N φ he hφ hN0 hw hbase hNN hwf hr
    unfold isDone at he
    split at he
    case h_2 => cases he
    case h_1 l1 hl =>
      refine (lCall_sound hm hn hx fuel n g _ #[.func (.yield l) #[] #[], .pointer (some ⟨Bm, 0, none⟩)] N ⟨φ, fun _ => 0, fun _ => .bool false⟩ rfl (fun r hr2 => ?_) _ l1 hl (fun _ => True) w (fun _ _ => ⟨fun _ _ => trivial, fun _ _ => trivial⟩) hwf (fun p _ k hs hk => by have := hs.1; have := (hNN k).1 hk; omega) hr).mono ?_
      · simp [ren, renA, hr2.φ 0 hN0, hφ]
      · rintro e w' ⟨p, hp, ρ', v', rfl, hs, hrr, hvv⟩
        have hwp : p.2.wrt = [] := by
          have := List.all_eq_true.1 he p hp
          simpa using this
        refine ⟨⟨_, rfl⟩, hs.os, hs.tape, hs.output, hs.size, fun k hk => hs.frame k hk (fun q _ hq1 hsome hor => ?_)⟩
        rcases hor with h2 | h2
        · rw [hwp] at h2; cases h2
        · omega
  have hrow : ∀ N ρ, ρ.φ 0 = Bm → VR N ρ (.map m) (.map m) → Holds N ρ 0 w (.row [.map m] t 0 false) := fun N ρ e hv => ⟨#[.map m], (0, 0), by rw [e]; exact hb, fun r hr => by simpa using hv r hr, by simp, by simp, by simp⟩
  cases m with
  | none =>
    refine close (itH0 t) (fun k => k < 1) (fun _ => Bm) (h0 l t) rfl (by decide) rfl rfl (fun k => Iff.rfl) (fun k hk => ?_) ⟨fun a b _ _ ha hb _ => ?_, fun k o _ ho => ?_, fun k _ hk => ?_, fun _ => rfl, fun g h => by cases h⟩
    · rw [itH0_get]; rw [if_neg (by have : 1 ≤ k := hk; omega)]
    · rw [itH0_get] at ha hb; split at ha <;> split at hb <;> simp_all
    · rw [itH0_get] at ho; split at ho
      · rename_i h; subst h; injection ho with ho; subst ho; exact hrow _ _ rfl (VR.shut rfl)
      · cases ho
    · rw [itH0_get] at hk; split at hk
      · omega
      · cases hk
  | some b =>
    obtain ⟨cl, hcl⟩ := hmm b rfl
    have hne : Bm ≠ b := fun e => by subst e; rw [hb] at hcl; cases hcl
    have hgo := h1 l t cl
    -- the map's name is 1, and lies at b
    have hrow1 : Holds (fun k => k < 2) ⟨fun k => if k = 0 then Bm else b, fun _ => 0, fun _ => .bool false⟩ 0 w (.row [.map (some 1)] t 0 false) :=
      ⟨#[.map (some b)], (0, 0), by simpa using hb, fun r hr => by
        have := hr.φ 1 (by decide)
        simp [ren] at this ⊢
        exact this, by simp, by simp, by simp⟩
    refine close (itH (some 1) t cl) (fun k => k < 2) (fun k => if k = 0 then Bm else b) hgo rfl (by decide) rfl rfl (fun k => Iff.rfl) (fun k hk => ?_) ⟨fun x y _ _ hx hy e => ?_, fun k o _ ho => ?_, fun k _ hk => ?_, fun _ => rfl, fun g h => by cases h⟩
    · have : 2 ≤ k := hk
      rw [itH_get, if_neg (by omega), if_neg (by omega)]
    · rw [itH_get] at hx hy
      dsimp only at e
      split at hx <;> split at hy <;> simp_all <;> omega
    · rw [itH_get] at ho; split at ho
      · rename_i h; subst h; injection ho with ho; subst ho; exact hrow1
      · split at ho
        · rename_i h; subst h; injection ho with ho; subst ho
          exact ⟨#[], by simpa using hcl, rfl, fun i e he => by simp at he⟩
        · cases ho
    · rw [itH_get] at hk; split at hk
      · omega
      · split at hk
        · omega
        · cases hk

/-- slices.AppendSeq, whatever its rounds do -/
def apCode (S Q V : TypeId) (AS BO : Code) : Code :=
  .seq (.region 0 #[{ dst := some 2, op := .box S (.tmp 0), type := V, pos := "iter.go:50", after := #[], guard := none }, { dst := some 4, op := .assign (.const (.slice none 0 0)), type := S, pos := "iter.go:50", after := #[], guard := none }] false)
    (.seq (.seq (.region 1 #[{ dst := some 6, op := .move (.tmp 1), type := Q, pos := "iter.go:51", after := #[], guard := none }] false) (.block 0 (.rangeFunc (.tmp 6) #[7] AS BO)))
      (.seq (.region 4 #[{ dst := some 12, op := .load S (.tmp 2), type := S, pos := "iter.go:54", after := #[], guard := none }, { dst := some 4, op := .assign (.tmp 12), type := S, pos := "iter.go:54", after := #[{ on := 0, ground := .data }, { on := 0, ground := .phase }], guard := none }] false) .ret))
def apLoop (AS BO : Code) (fn : FuncId) (sv : Value) (Bs D : Nat) (st : LoopState) : Loop :=
  { state := st, pending := none, fn, tmps := #[.slice none 0 0, sv, .pointer (some ⟨Bs, 0, none⟩), undef, .slice none 0 0, undef, sv, undef, undef, undef, undef, undef, undef], params := #[7], assign := AS, body := BO, defers := D }
set_option maxRecDepth 100000 in
set_option maxHeartbeats 2000000 in
theorem appendNone {P : Program} (mixed : P.follows .mixedOrders = true) {f : FuncId} {fn : Func} {S Q V E : TypeId} {AS BO : Code} (hf : P.funcs[f]? = some fn) (hb : fn.body = some (apCode S Q V AS BO)) (hnt : fn.ntmps = 13) (hres : fn.results = #[.tmp 4])
    (tS : P.underlying S = some (.slice E)) (aS : ∀ w, (isAgg S).run P w = .ok false w) (zS : ∀ w, (Go.sizeOf S).run P w = .ok 1 w) {g : FuncId} (eg : ∀ args w, (callFunc g args).run P w = .ok (.enter g args) w) (hI : ItNone P g) (w : World) (Bm : Nat) (m : Option Nat) (t : TypeId)
    (hbm : w.heap[Bm]? = some (.cells #[.map m] t (0, 0))) (hmm : ∀ b, m = some b → ∃ cl, w.heap[b]? = some (.map #[] cl)) :
    Calls P f #[.slice none 0 0, .func (.func g) #[] #[.pointer (some ⟨Bm, 0, none⟩)]] w fun e w' => e = .returned (.slice none 0 0) ∧ Below w.heap.size w w' := by
  have uS := run_underlying tS
  refine (callsIn_wide (n := 5)).1 ?_
  refine callsIn_of_wp_marks hf hb trivial ?_ rfl
  simp only [hnt, apCode, List.size_toArray, List.length_cons, List.length_nil, Nat.reduceAdd, Nat.reduceSub, Array.replicate_succ, Array.replicate_zero, List.push_toArray, List.append_toArray, List.nil_append, List.cons_append]
  gi_wp2
  refine wpIn_rangeFunc ?_
  intro fn' hfn
  rw [show Fence.wide.round = none from rfl]
  obtain ⟨W0, hW0⟩ : ∃ W0, w.alloc (.cells #[.slice none 0 0] S) = W0 := ⟨_, rfl⟩
  have hs0 : W0.heap.size = w.heap.size + 1 := by rw [← hW0]; simp
  have hv0 : W0.heap[w.heap.size]? = some (.cells #[.slice none 0 0] S (0, 0)) := by rw [← hW0]; exact World.alloc_heap_new w _
  have hb0 : Below w.heap.size w W0 := by rw [← hW0]; exact (Below.refl _ w).alloc (Nat.le_refl _) _
  rw [hW0]
  obtain ⟨W1, hW1⟩ : ∃ W1, (W0.alloc (.deferred (some []))).alloc (.loop (apLoop AS BO fn' (.func (.func g) #[] #[.pointer (some ⟨Bm, 0, none⟩)]) w.heap.size W0.heap.size .ready)) = W1 := ⟨_, rfl⟩
  have hold : ∀ k, k < W0.heap.size → W1.heap[k]? = W0.heap[k]? := fun k hk => by
    rw [← hW1]; exact (Below.heap_alloc _ _ k (by simp; omega)).trans (Below.heap_alloc _ _ k hk)
  have hb1 : Below w.heap.size w W1 := by rw [← hW1]; exact (hb0.alloc hb0.size _).alloc (by have := hb0.size; simp; omega) _
  have hs1 : W1.heap.size = W0.heap.size + 2 := by rw [← hW1]; simp
  have hL1 : W1.heap[W0.heap.size + 1]? = some (.loop (apLoop AS BO fn' (.func (.func g) #[] #[.pointer (some ⟨Bm, 0, none⟩)]) w.heap.size W0.heap.size .ready)) := by
    rw [← hW1]; have := World.alloc_heap_new (W0.alloc (.deferred (some []))) (.loop (apLoop AS BO fn' (.func (.func g) #[] #[.pointer (some ⟨Bm, 0, none⟩)]) w.heap.size W0.heap.size .ready)); rwa [World.size_alloc] at this
  have hK1 : W1.heap[W0.heap.size]? = some (.deferred (some [])) := by rw [← hW1]; exact (Below.heap_alloc _ _ _ (by simp)).trans (World.alloc_heap_new W0 _)
  have hv1 : W1.heap[w.heap.size]? = some (.cells #[.slice none 0 0] S (0, 0)) := (hold _ (by omega)).trans hv0
  have hBm1 : W1.heap[Bm]? = some (.cells #[.map m] t (0, 0)) := (hb1.block _ (Array.getElem?_eq_some_iff.1 hbm).1).trans hbm
  have hmm1 : ∀ b, m = some b → ∃ cl, W1.heap[b]? = some (.map #[] cl) := fun b e => by
    obtain ⟨cl, h⟩ := hmm b e
    exact ⟨cl, (hb1.block _ (Array.getElem?_eq_some_iff.1 h).1).trans h⟩
  refine ⟨W0.heap.size + 1, [{ target := .collected W0.heap.size, args := #[] }], W1, { target := .fn (.func g) #[.pointer (some ⟨Bm, 0, none⟩)], args := #[.func (.yield (W0.heap.size + 1)) #[] #[]] }, W1, g,
    #[.func (.yield (W0.heap.size + 1)) #[] #[]] ++ #[.pointer (some ⟨Bm, 0, none⟩)], W1, ?_, ?_, ?_, ?_, fun _ => by omega, ?_⟩
  · rw [← hW1]; exact run_enterLoop_outer _ _ _ _ _
  · simp [resolve, go_sem]
  · intro f' hf'; trivial
  · simp [invoke, go_sem, eg]
  · refine callsIn_wide.2 ((hI (W0.heap.size + 1) W1 Bm m t hBm1 hmm1).mono ?_)
    rintro e W2 ⟨⟨v0, rfl⟩, hb2⟩
    have hL2 : W2.heap[W0.heap.size + 1]? = some (.loop (apLoop AS BO fn' (.func (.func g) #[] #[.pointer (some ⟨Bm, 0, none⟩)]) w.heap.size W0.heap.size .ready)) := (hb2.block _ (Array.getElem?_eq_some_iff.1 hL1).1).trans hL1
    have hK2 : W2.heap[W0.heap.size]? = some (.deferred (some [])) := (hb2.block _ (Array.getElem?_eq_some_iff.1 hK1).1).trans hK1
    have hv2 : W2.heap[w.heap.size]? = some (.cells #[.slice none 0 0] S (0, 0)) := (hb2.block _ (Array.getElem?_eq_some_iff.1 hv1).1).trans hv1
    have hend := run_endLoop (P := P) hL2 (by simp [apLoop])
    obtain ⟨W3, hW3⟩ : ∃ W3, W2.putObj (W0.heap.size + 1) (.loop { apLoop AS BO fn' (.func (.func g) #[] #[.pointer (some ⟨Bm, 0, none⟩)]) w.heap.size W0.heap.size .ready with state := .exhausted }) = W3 := ⟨_, rfl⟩
    rw [hW3] at hend
    have hv3 : W3.heap[w.heap.size]? = some (.cells #[.slice none 0 0] S (0, 0)) := by rw [← hW3]; exact (World.putObj_heap_other (by omega)).trans hv2
    have hK3 : W3.heap[W0.heap.size]? = some (.deferred (some [])) := by rw [← hW3]; exact (World.putObj_heap_other (by omega)).trans hK2
    have hg3 : W2.grownBy W3 (some (W0.heap.size + 1)) := by rw [← hW3]; exact ⟨rfl, rfl, rfl, by simp, fun k _ hk => World.putObj_heap_other (fun e => hk (by rw [e]))⟩
    have hb3 : Below w.heap.size w W3 := (hb1.trans (hb2.mono (by omega))).grown hg3 (by have := hb2.size; omega) (fun k e => by cases e; omega)
    have hc3 : W3.cell? ⟨w.heap.size, 0, none⟩ = some (.slice none 0 0) := by simp [World.cell?, hv3]
    have hf3 : W3.frozen? ⟨w.heap.size, 0, none⟩ = false := by simp [World.frozen?, hv3]
    clear hW3
    refine ⟨none, W3, hend, ?_⟩
    gi_wp2
    rw [← hs0]
    refine ⟨by simp, .inl ⟨_, _, rfl, run_takeDeferred hK3, ?_⟩⟩
    refine ⟨_, results_tmp (by rw [hres]) _ _ _, rfl, ?_⟩
    exact hb3.grown ⟨rfl, rfl, rfl, by simp, fun k _ hk => World.putObj_heap_other (fun e => hk (by rw [e]))⟩ (by have := hb2.size; have := hg3.size; omega) (fun k e => by cases e; omega)

def AppendNoneAt (P : Program) (f g : FuncId) : Prop := ∀ (w : World) (Bm : Nat) (m : Option Nat) (t : TypeId), w.heap[Bm]? = some (.cells #[.map m] t (0, 0)) → (∀ b, m = some b → ∃ cl, w.heap[b]? = some (.map #[] cl)) →
    Calls P f #[.slice none 0 0, .func (.func g) #[] #[.pointer (some ⟨Bm, 0, none⟩)]] w fun e w' => e = .returned (.slice none 0 0) ∧ Below w.heap.size w w'
/-- .. as one step -/
def aAppend0 (its : List FuncId) (args : Array Value) : AM Value :=
  match seqArg args.toList with
  | some (g, bx) => (match hasN its g with
    | true => (AM.look bx).bind fun
      | .row l _ p mk => (match l, p, mk with
        | [.map m], 0, false => (match m with
          | none => .pure (.slice none 0 0)
          | some r => (AM.look r).bind fun
            | .map [] _ => .pure (.slice none 0 0)
            | _ => .fail)
        | _, _, _ => .fail)
      | _ => .fail
    | false => .fail)
  | none => .fail
theorem hasN_mem : ∀ {l : List Nat} {f : Nat}, hasN l f = true → f ∈ l
  | [], _, h => by cases h
  | n :: r, f, h => by
    unfold hasN at h
    split at h
    · rename_i hb; rw [Nat.eq_of_beq_eq_true hb]; exact List.mem_cons_self
    · exact List.mem_cons_of_mem _ (hasN_mem h)
theorem aAppend0_sound {P : Program} {f : FuncId} {its : List FuncId} (hap : ∀ g ∈ its, AppendNoneAt P f g) : FunOK P f (aAppend0 its) := by
  intro args args' N ρ hl h v h' he D w hcov hwf hN hr
  unfold aAppend0 at he
  split at he
  case h_2 => cases he
  case h_1 g bx hs =>
    have ha := seqArg_spec hs
    split at he
    case h_2 => cases he
    case h_1 hg =>
      have hg := hasN_mem hg
      have ha' : args' = #[.slice none 0 0, .func (.func g) #[] #[.pointer (some ⟨ρ.φ bx, 0, none⟩)]] := by
        apply Array.ext'
        rw [← hl.eq, ha]
        simp [ren, renA]
      subst ha'
      obtain ⟨ob, h1, e1, e2⟩ := AM.bind_some he
      have m2 := AM.mono _ _ _ _ e2
      have c1 : Cov D h1 := hcov.of m2
      obtain ⟨g1, rfl⟩ := AM.look_some e1
      have hls := look_step (n := bx) hr
      rw [Grow.eq_self] at hls
      cases ob with
      | map => cases e2
      | iter => cases e2
      | row l t p mk =>
        dsimp only at e2
        split at e2
        case h_2 => cases e2
        case h_1 m =>
          obtain ⟨c, fr, b1, b2, b3, b4, b5⟩ := hr.holds bx _ c1.look g1
          simp at b3 b5
          subst b3
          have hc : c = #[ren ρ (.map m)] := by
            apply Array.ext'
            have := b2.eq
            rw [List.take_of_length_le (by simp [b5])] at this
            rw [← this]; simp
          subst hc
          have fin : ∀ (H : AH), v = .slice none 0 0 → h' = H → Step D h ρ w H ρ w → Rel D N ρ H.get w → H.next = h.next → (∀ b, m = some b → ∃ cl, w.heap[ρ.φ b]? = some (.map #[] cl)) →
              Calls P f #[.slice none 0 0, .func (.func g) #[] #[.pointer (some ⟨ρ.φ bx, 0, none⟩)]] w fun e w' => ∃ ρ' v', e = .returned v' ∧ Step D h ρ w h' ρ' w' ∧ Rel D (Grow N h.next h'.next) ρ' h'.get w' ∧ VR (Grow N h.next h'.next) ρ' v v' := by
            intro H e3 e4 hst hre hnx hmm
            subst e3; subst e4
            refine (hap g hg w (ρ.φ bx) (m.map ρ.φ) t (by rw [b1]; cases m <;> simp [ren]) (fun b hb => ?_)).mono ?_
            · cases m with
              | none => cases hb
              | some r => simp at hb; subst hb; exact hmm r rfl
            · rintro e w' ⟨rfl, hb⟩
              have hG : Grow N h.next h'.next = N := by rw [hnx]; exact Grow.eq_self _ _
              refine ⟨ρ, _, rfl, ⟨Agree.refl _ _, fun n hn => absurd hn.1 (by have := hn.2; omega), hb.os, hb.tape, hb.output, hb.size, fun k hk _ => hb.block k hk⟩, ?_, VR.shut rfl⟩
              rw [hG]
              exact ⟨hre.inj, fun n o hD ho => (hre.holds n o hD ho).mono (Agree.refl _ _) (fun _ h => h) (hre.known n hD (by rw [ho]; rfl)) (hb.block _ (hre.holds n o hD ho).lt), hre.known, hre.sym, hre.glob⟩
          split at e2
          · obtain ⟨e3, e4⟩ := AM.pure_some e2
            exact fin _ e3 e4 hls.1 hls.2 rfl (fun b hb => by cases hb)
          · rename_i r
            obtain ⟨ob2, h2, e3, e4⟩ := AM.bind_some e2
            have m3 := (AM.look r).mono _ _ _ e3
            have c2 : Cov D h2 := hcov.of (AM.mono _ _ _ _ e4)
            split at e4
            case h_2 => cases e4
            case h_1 cl =>
              obtain ⟨e5, e6⟩ := AM.pure_some e4
              obtain ⟨es', p1, p2, p3, p4, p5, p6, p7, p8⟩ := look_map e3 c2 hls.2
              have hz : es' = #[] := by
                have := p2.len
                cases es' with
                | mk l => cases l with
                  | nil => rfl
                  | cons => simp at this
              subst hz
              exact fin _ e5 e6 (hls.1.trans p5 ((AM.look bx).mono _ _ _ e1) m3) p6 p4 (fun b hb => by cases hb; exact ⟨cl, p1⟩)
end Go.Proofs.Ytljhlnpbomehkaa
