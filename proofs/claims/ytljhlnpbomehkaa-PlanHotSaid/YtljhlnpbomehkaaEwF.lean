/- An evaluator of Go code whose memory has names of its own (6): a region that draws its order. -/
import Derived.Test.YtljhlnpbomehkaaEwE
namespace Go.Proofs.Ytljhlnpbomehkaa
set_option linter.unusedVariables false
set_option linter.unusedSimpArgs false

/-- temporaries: those of the evaluator, those of Go's -/
structure TR (N : Nat → Prop) (ρ : Ren) (ts tm : Array Value) : Prop where
  val : ∀ t : Nat, VR N ρ (ts.getD t undef) (tm.getD t undef)
  size : tm.size = ts.size
theorem TR.mono {N N' : Nat → Prop} {ρ ρ' : Ren} {ts tm : Array Value} (h : TR N ρ ts tm) (ha : Agree N ρ ρ') (hN : ∀ n, N n → N' n) : TR N' ρ' ts tm := ⟨fun t => (h.val t).mono ha hN, h.size⟩

section
variable {P : Program} {ops : Array Oper} {f : Oper → Array Value → AM Value} {l : List Rec} {t' : Array Value} {h' : AH} {D N : Nat → Prop} {ρ0 : Ren} {a0 : Act} {w0 : World} {SQ : (Nat → Value) → Prop}
def LS (listed : Array Bool) (k : Nat) : Bool := listed.getD k false
theorem all_listed {listed : Array Bool} (hs : listed.size = ops.size) (hd : Down ops (LS listed)) (c : RC ops f l t' h') (hr : Region.ready .any ops listed = []) : ∀ k, k < ops.size → LS listed k = true := by
  intro k
  induction k using Nat.strongRecOn with
  | _ k ih =>
    intro hk
    cases hl : LS listed k with
    | true => rfl
    | false =>
      exfalso
      obtain ⟨o, ho⟩ := c.get hk
      have hlt : k < listed.size := by omega
      have : k ∈ Region.ready .any ops listed := by
        rw [mem_ready]
        refine ⟨?_, o, ho, fun e he hb => ?_⟩
        · unfold LS at hl
          simp only [Array.getD, hlt, dif_pos] at hl ⊢
          exact hl
        · have hme : e.on ∈ edges o := by
            unfold edges
            exact List.mem_map.2 ⟨e, List.mem_filter.2 ⟨by simpa using he, hb⟩, rfl⟩
          have := (c.ok1 hk).1 o ho e.on hme
          exact ih e.on this (by omega)
      rw [hr] at this
      cases this
theorem LS_set {listed : Array Bool} {i : Nat} (hi : i < listed.size) : LS (listed.setIfInBounds i true) = with1 (LS listed) i := by
  funext k
  show (listed.setIfInBounds i true).getD k false = if k = i then true else listed.getD k false
  rw [Array.getD_eq_getD_getElem?, Array.getD_eq_getD_getElem?, Array.getElem?_setIfInBounds]
  by_cases h : k = i
  · subst h; simp [hi]
  · rw [if_neg (fun e => h e.symm), if_neg h]
theorem Down.with1 {L : Nat → Bool} {i : Nat} (u : Up ops L i) : Down ops (with1 L i) := by
  intro j o ho hL e he
  unfold Go.Proofs.Ytljhlnpbomehkaa.with1 at *
  by_cases hji : j = i
  · subst hji
    have := u.edges o ho e he
    split
    · rfl
    · exact this
  · rw [if_neg hji] at hL
    have := u.down j o ho hL e he
    split
    · rfl
    · exact this
theorem RC.any (c : RC ops f l t' h') (hf : OSound P SQ ops f) (hsq : SQ ρ0.σ) (hcov : Cov D h') (hwf : WF (stH l h' 0)) (hN : New N (stH l h' 0).next h'.next) {Q : Exit → Act → World → Prop}
    (hQ : ∀ L ρ a w, (∀ k, k < ops.size → L k = true) → Inv ops l t' h' D N ρ0 a0 w0 L ρ a w → Q .normal a w) :
    ∀ (fuel : Nat) (listed : Array Bool) ρ a w, listed.size = ops.size → listed.toList.count false ≤ fuel → Down ops (LS listed) → Inv ops l t' h' D N ρ0 a0 w0 (LS listed) ρ a w → wpAny P .any ops Q fuel listed a w := by
  intro fuel
  induction fuel with
  | zero =>
    intro listed ρ a w hs hc hd I
    have hall : ∀ b ∈ listed.toList, b = true := fun b hb => by
      cases b with
      | true => rfl
      | false => have := List.count_pos_iff.2 hb; omega
    have hL : ∀ k, k < ops.size → LS listed k = true := fun k hk => by
      unfold LS
      have hlt : k < listed.size := by omega
      rw [Array.getD, dif_pos hlt]
      exact hall _ (Array.mem_toList_iff.2 (Array.getElem_mem hlt))
    refine ⟨?_, hQ _ ρ a w hL I⟩
    cases hr : Region.ready .any ops listed with
    | nil => rfl
    | cons i r =>
      have : i ∈ Region.ready .any ops listed := by rw [hr]; simp
      rw [mem_ready] at this
      obtain ⟨h1, o, ho, _⟩ := this
      have hi := (Array.getElem?_eq_some_iff.1 ho).1
      have hlt : i < listed.size := by omega
      have := hL i hi
      unfold LS at this
      simp only [Array.getD, hlt, dif_pos] at h1 this
      rw [h1] at this; cases this
  | succ fuel ih =>
    intro listed ρ a w hs hc hd I
    refine ⟨fun hr => hQ _ ρ a w (all_listed hs hd c hr) I, fun i hi => ?_⟩
    rw [mem_ready] at hi
    obtain ⟨h1, o, ho, he⟩ := hi
    have hlt := (Array.getElem?_eq_some_iff.1 ho).1
    have hlt2 : i < listed.size := by omega
    have hi0 : listed[i] = false := by rw [Array.getD, dif_pos hlt2] at h1; exact h1
    have u : Up ops (LS listed) i := ⟨hd, by unfold LS; rw [Array.getD, dif_pos hlt2]; exact hi0, hlt, fun o' ho' e hee => by
      rw [ho] at ho'; injection ho' with ho'; subst ho'
      unfold edges at hee
      obtain ⟨ed, h2, rfl⟩ := List.mem_map.1 hee
      obtain ⟨h3, h4⟩ := List.mem_filter.1 h2
      exact he ed (by simpa using h3) h4⟩
    refine c.op hf hsq hcov hwf hN u I (fun ρ' a' w' I' => ih _ ρ' a' w' (by simpa using hs) ?_ ?_ ?_)
    · rw [Array.toList_setIfInBounds, List.count_set (by simpa using hlt2)]
      have h2 : listed.toList[i]'(by simpa using hlt2) = false := by simpa using hi0
      have h3 : 0 < listed.toList.count false := List.count_pos_iff.2 (by rw [← hi0]; exact Array.mem_toList_iff.2 (Array.getElem_mem hlt2))
      rw [h2]
      have e1 : ((true : Bool) == false) = false := rfl
      have e2 : ((false : Bool) == false) = true := rfl
      rw [e1, e2, if_pos rfl, if_neg (by simp)]
      omega
    · rw [LS_set hlt2]; exact Down.with1 u
    · rw [LS_set hlt2]; exact I'
end

/-- a region that draws its order, as a program -/
def aReg (ops : Array Oper) (f : Oper → Array Value → AM Value) (ts : Array Value) : AM (Array Value) :=
  ⟨fun h => match regGo ops f ops.toList ts h with
    | some (l, t', h') => if okReg ops l t' h' = true then some (t', h') else none
    | none => none, fun h x h' e => by
    split at e
    · rename_i l t' h2 hr
      split at e
      · rename_i hok
        injection e with e; injection e with e1 e2; subst e2
        obtain ⟨a1, a2, a3, a4⟩ := regGo_spec hr
        have c : RC ops f l t' h2 := ⟨fun i o ho => a4 i o (by simpa using ho), by simpa using a1, hok⟩
        have := c.monoE 0
        rwa [a3] at this
      · cases e
    · cases e⟩

/-- what a run of a piece of code comes to -/
def QN (D N : Nat → Prop) (h : AH) (ρ : Ren) (a : Act) (w : World) (ts' : Array Value) (h' : AH) (a' : Act) (w' : World) : Prop :=
  ∃ ρ', Step D h ρ w h' ρ' w' ∧ Rel D (Grow N h.next h'.next) ρ' h'.get w' ∧ TR (Grow N h.next h'.next) ρ' ts' a'.tmps ∧ a'.defers = a.defers

theorem aReg_sound {P : Program} {SQ : (Nat → Value) → Prop} {ops : Array Oper} {f : Oper → Array Value → AM Value} (hm : P.follows .mixedOrders = true) (hf : OSound P SQ ops f) {ts ts' : Array Value} {h h' : AH} (hr : (aReg ops f ts).run h = some (ts', h'))
    {D N : Nat → Prop} {ρ : Ren} (hsq : SQ ρ.σ) {a : Act} {w : World} (hcov : Cov D h') (hwf : WF h) (hN : New N h.next h'.next) (hrel : Rel D N ρ h.get w) (ht : TR N ρ ts a.tmps) {id : Nat} {Q : Exit → Act → World → Prop}
    (hQ : ∀ a' w', QN D N h ρ a w ts' h' a' w' → Q .normal a' w') : (Code.region id ops true).wp P Q a w := by
  unfold aReg at hr
  dsimp only at hr
  split at hr
  case h_2 => cases hr
  case h_1 l t' h2 hg =>
    by_cases hok : okReg ops l t' h2 = true
    case neg => rw [if_neg hok] at hr; cases hr
    rw [if_pos hok] at hr
    injection hr with hr; injection hr with e1 e2; subst e1; subst e2
    obtain ⟨a1, a2, a3, a4⟩ := regGo_spec hg
    have c : RC ops f l t' h2 := ⟨fun i o ho => a4 i o (by simpa using ho), by simpa using a1, hok⟩
    have hL0 : ∀ k, LS (Array.replicate ops.size false) k = false := fun k => by
      unfold LS
      rw [Array.getD_eq_getD_getElem?]
      by_cases hk : k < ops.size
      · simp [hk]
      · simp [hk]
    have hov0 : ∀ {α X : Type} (s : Nat → X → α) (wr : Nat → X → Prop) [∀ i x, Decidable (wr i x)] (x : X) n, ov s wr (LS (Array.replicate ops.size false)) n x = s 0 x := by
      intro α X s wr _ x n
      induction n with
      | zero => rfl
      | succ n ih => unfold ov; rw [hL0 n]; simpa using ih
    have hSL0 : ∀ k, ¬ SL l h2 ops.size (LS (Array.replicate ops.size false)) k := fun k ⟨i, _, hh, _⟩ => by rw [hL0] at hh; cases hh
    have hNL0 : NL N l h2 ops.size (LS (Array.replicate ops.size false)) = N := funext fun k => propext ⟨fun hh => hh.elim (fun x => x) (fun x => absurd x (hSL0 k)), .inl⟩
    refine wp_region_any hm (c.any (ρ0 := ρ) (a0 := a) (w0 := w) hf hsq hcov (by rw [a3]; exact hwf) (by rw [a3]; exact hN) ?_ _ _ ρ a _ (by simp) (by simp) ?_ ?_)
    · intro L ρ' a' w' hall I
      refine hQ a' w' ⟨ρ', ?_⟩
      have hNg : NL N l h2 ops.size L = Grow N h.next h2.next := funext fun k => propext (or_congr Iff.rfl ⟨fun ⟨i, _, _, hs⟩ => by rw [← a3]; exact c.inSpan hs, fun hs => by
        have hlast : stH l h2 ops.size = h2 := (c.past (Nat.le_refl _)).2.1
        obtain ⟨j, hj, hsp⟩ := c.findSpan (k := k) ops.size (by rw [a3]; exact hs.1) (by rw [hlast]; exact hs.2)
        exact ⟨j, hj, hall j hj, hsp⟩⟩)
      have hovH : ovH l h2 L ops.size = h2.get := funext fun k => by
        classical
        unfold ovH
        rw [ov_eq (s := fun i k => (stH l h2 i).get k) (i := ops.size) (fun j hw => c.stepH (by rw [a3]; exact hwf) j k hw) ops.size (Nat.le_refl _) (fun j hj _ => ⟨fun _ => hj, fun _ => hall j hj⟩)]
        rw [(c.past (Nat.le_refl _)).2.1]
      have hovT : ∀ t, ovT ops l t' L ops.size t = t'.getD t undef := fun t => by
        classical
        unfold ovT
        rw [ov_eq (s := fun i k => (stT l t' i).getD k undef) (i := ops.size) (fun j hw => c.stepT j t hw) ops.size (Nat.le_refl _) (fun j hj _ => ⟨fun _ => hj, fun _ => hall j hj⟩)]
        rw [(c.past (Nat.le_refl _)).1]
      have hrel' := I.rel
      rw [hovH, hNg] at hrel'
      have htm := I.tmps
      rw [hNg] at htm
      have hst := I.step
      rw [a3] at hst
      refine ⟨⟨hst.agree, fun n hn => ?_, hst.os, hst.tape, hst.output, hst.size, hst.frame⟩, hrel', ⟨fun t => ?_, ?_⟩, I.defers⟩
      · refine hst.fresh n ?_
        have hlast : stH l h2 ops.size = h2 := (c.past (Nat.le_refl _)).2.1
        obtain ⟨j, hj, hsp⟩ := c.findSpan (k := n) ops.size (by rw [a3]; exact hn.1) (by rw [hlast]; exact hn.2)
        exact ⟨j, hj, hall j hj, hsp⟩
      · rw [← hovT t]; exact htm t
      · rw [I.size, a2, ← a2, ← c.sizeT ops.size, (c.past (Nat.le_refl _)).1]
    · intro j o ho hh; rw [hL0] at hh; cases hh
    · refine ⟨?_, ?_, ?_, rfl, ?_⟩
      · rw [hNL0, show ovH l h2 (LS (Array.replicate ops.size false)) ops.size = h.get from funext fun k => by
          classical
          unfold ovH
          rw [hov0, a3]]
        exact ⟨hrel.inj, fun n o hD ho => (hrel.holds n o hD ho).mono (Agree.refl _ _) (fun _ h => h) (hrel.known n hD (by rw [ho]; rfl)) rfl, hrel.known, hrel.sym, hrel.glob⟩
      · intro t
        rw [hNL0, show ovT ops l t' (LS (Array.replicate ops.size false)) ops.size t = ts.getD t undef from by
          classical
          unfold ovT
          rw [hov0, a2]]
        exact ht.val t
      · rw [a2]; exact ht.size
      · exact ⟨Agree.refl _ _, fun n hn => absurd hn (hSL0 n), rfl, rfl, rfl, Nat.le_refl _, fun _ _ _ => rfl⟩
end Go.Proofs.Ytljhlnpbomehkaa
