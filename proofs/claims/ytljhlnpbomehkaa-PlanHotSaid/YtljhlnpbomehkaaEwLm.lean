/- An evaluator of Go code whose memory has names of its own: calls that come to more than one end; ends that are alike are one. -/
import Derived.Test.YtljhlnpbomehkaaEwLc
namespace Go.Proofs.Ytljhlnpbomehkaa
set_option linter.unusedVariables false
set_option linter.unusedSimpArgs false

/-- are two values one? -/
def eqBytes (a b : List UInt8) : Bool :=
  match a, b with
  | [], [] => true
  | x :: r, y :: s => Nat.beq x.toNat y.toNat && eqBytes r s
  | _, _ => false
theorem eqBytes_eq : ∀ {a b : List UInt8}, eqBytes a b = true → a = b
  | [], [], _ => rfl
  | x :: r, y :: s, h => by
    simp only [eqBytes, Bool.and_eq_true] at h
    rw [eqBytes_eq h.2, UInt8.toNat_inj.1 (Nat.eq_of_beq_eq_true h.1)]
  | [], _ :: _, h => by cases h
  | _ :: _, [], h => by cases h
def eqL (f : Value → Value → Bool) : List Value → List Value → Bool
  | [], [] => true
  | x :: r, y :: s => f x y && eqL f r s
  | _, _ => false
theorem eqL_eq {f : Value → Value → Bool} (hf : ∀ x y, f x y = true → x = y) : ∀ {a b : List Value}, eqL f a b = true → a = b
  | [], [], _ => rfl
  | x :: r, y :: s, h => by
    simp only [eqL, Bool.and_eq_true] at h
    rw [hf _ _ h.1, eqL_eq hf h.2]
  | [], _ :: _, h => by cases h
  | _ :: _, [], h => by cases h
def eqON : Option Nat → Option Nat → Bool
  | none, none => true
  | some a, some b => Nat.beq a b
  | _, _ => false
theorem eqON_eq {a b : Option Nat} (h : eqON a b = true) : a = b := by
  cases a <;> cases b <;> simp only [eqON] at h <;> first | rfl | cases h | rw [Nat.eq_of_beq_eq_true h]
def eqAd (a b : Addr) : Bool := Nat.beq a.block b.block && (Nat.beq a.off b.off && eqON a.spot b.spot)
theorem eqAd_eq {a b : Addr} (h : eqAd a b = true) : a = b := by
  simp only [eqAd, Bool.and_eq_true] at h
  obtain ⟨x, y, z⟩ := a
  obtain ⟨x', y', z'⟩ := b
  dsimp only at h
  rw [Nat.eq_of_beq_eq_true h.1, Nat.eq_of_beq_eq_true h.2.1, eqON_eq h.2.2]
def eqOA : Option Addr → Option Addr → Bool
  | none, none => true
  | some a, some b => eqAd a b
  | _, _ => false
theorem eqOA_eq {a b : Option Addr} (h : eqOA a b = true) : a = b := by
  cases a <;> cases b <;> simp only [eqOA] at h <;> first | rfl | cases h | rw [eqAd_eq h]
def eqFn : Fn → Fn → Bool
  | .func f, .func g => Nat.beq f g
  | _, _ => false
theorem eqFn_eq {a b : Fn} (h : eqFn a b = true) : a = b := by
  cases a <;> cases b <;> simp only [eqFn] at h <;> first | cases h | rw [Nat.eq_of_beq_eq_true h]
def kindNo : IntKind → Nat
  | .i8 => 0 | .i16 => 1 | .i32 => 2 | .i64 => 3 | .u8 => 4 | .u16 => 5 | .u32 => 6 | .u64 => 7
theorem kindNo_inj {a b : IntKind} (h : Nat.beq (kindNo a) (kindNo b) = true) : a = b := by
  cases a <;> cases b <;> first | rfl | cases h
def eqInt : Int → Int → Bool
  | .ofNat a, .ofNat b => Nat.beq a b
  | .negSucc a, .negSucc b => Nat.beq a b
  | _, _ => false
theorem eqInt_eq {a b : Int} (h : eqInt a b = true) : a = b := by
  cases a <;> cases b <;> simp only [eqInt] at h <;> first | cases h | rw [Nat.eq_of_beq_eq_true h]
def eqBool : Bool → Bool → Bool
  | true, true => true
  | false, false => true
  | _, _ => false
theorem eqBool_eq {a b : Bool} (h : eqBool a b = true) : a = b := by cases a <;> cases b <;> first | rfl | cases h
def eqV : Nat → Value → Value → Bool
  | 0, _, _ => false
  | n + 1, v, u => match v, u with
    | .bool a, .bool b => eqBool a b
    | .int k a, .int l b => Nat.beq (kindNo k) (kindNo l) && eqInt a b
    | .string a, .string b => eqBytes a.data.toList b.data.toList
    | .pointer a, .pointer b => eqOA a b
    | .slice a n c, .slice b m d => eqOA a b && (Nat.beq n m && Nat.beq c d)
    | .map a, .map b => eqON a b
    | .chan a, .chan b => eqON a b
    | .func f x y, .func g x' y' => eqFn f g && (eqL (eqV n) x.toList x'.toList && eqL (eqV n) y.toList y'.toList)
    | .nilFunc, .nilFunc => true
    | .iface t a, .iface s b => Nat.beq t s && eqV n a b
    | .nilIface, .nilIface => true
    | .agg a, .agg b => eqL (eqV n) a.toList b.toList
    | .tuple a, .tuple b => eqL (eqV n) a.toList b.toList
    | _, _ => false
theorem arr_eq {a b : Array Value} (h : a.toList = b.toList) : a = b := Array.ext' h
theorem eqV_eq : ∀ (n : Nat) (v u : Value), eqV n v u = true → v = u := by
  intro n
  induction n with
  | zero => intro v u h; cases h
  | succ n ih =>
    intro v u h
    unfold eqV at h
    split at h
    · rw [eqBool_eq h]
    · rw [Bool.and_eq_true] at h; rw [kindNo_inj h.1, eqInt_eq h.2]
    · rename_i a b
      have := eqBytes_eq h
      congr 1
      cases a; cases b
      congr 1
      exact Array.ext' this
    · rw [eqOA_eq h]
    · simp only [Bool.and_eq_true] at h; rw [eqOA_eq h.1, Nat.eq_of_beq_eq_true h.2.1, Nat.eq_of_beq_eq_true h.2.2]
    · rw [eqON_eq h]
    · rw [eqON_eq h]
    · simp only [Bool.and_eq_true] at h; rw [eqFn_eq h.1, arr_eq (eqL_eq ih h.2.1), arr_eq (eqL_eq ih h.2.2)]
    · rfl
    · simp only [Bool.and_eq_true] at h; rw [Nat.eq_of_beq_eq_true h.1, ih _ _ h.2]
    · rfl
    · rw [arr_eq (eqL_eq ih h)]
    · rw [arr_eq (eqL_eq ih h)]
    · cases h
def eqEs : List MapEntry → List MapEntry → Bool
  | [], [] => true
  | x :: r, y :: s => eqV 20 x.key y.key && (eqV 20 x.val y.val && (Nat.beq x.born y.born && eqEs r s))
  | _, _ => false
theorem eqEs_eq : ∀ {a b : List MapEntry}, eqEs a b = true → a = b
  | [], [], _ => rfl
  | x :: r, y :: s, h => by
    simp only [eqEs, Bool.and_eq_true] at h
    obtain ⟨k, v, b⟩ := x
    obtain ⟨k', v', b'⟩ := y
    dsimp only at h
    rw [eqV_eq _ _ _ h.1, eqV_eq _ _ _ h.2.1, Nat.eq_of_beq_eq_true h.2.2.1, eqEs_eq h.2.2.2]
  | [], _ :: _, h => by cases h
  | _ :: _, [], h => by cases h
def eqNs : List Nat → List Nat → Bool
  | [], [] => true
  | x :: r, y :: s => Nat.beq x y && eqNs r s
  | _, _ => false
theorem eqNs_eq : ∀ {a b : List Nat}, eqNs a b = true → a = b
  | [], [], _ => rfl
  | x :: r, y :: s, h => by
    simp only [eqNs, Bool.and_eq_true] at h
    rw [Nat.eq_of_beq_eq_true h.1, eqNs_eq h.2]
  | [], _ :: _, h => by cases h
  | _ :: _, [], h => by cases h
def eqO : AObj → AObj → Bool
  | .row a e p m, .row a' e' p' m' => eqL (eqV 20) a a' && (Nat.beq e e' && (Nat.beq p p' && eqBool m m'))
  | .map a c, .map a' c' => eqEs a a' && Nat.beq c c'
  | .iter m s l t, .iter m' s' l' t' => eqON m m' && (Nat.beq s s' && (eqNs l l' && Nat.beq t t'))
  | _, _ => false
theorem eqO_eq {a b : AObj} (h : eqO a b = true) : a = b := by
  cases a <;> cases b <;> simp only [eqO, Bool.and_eq_true] at h <;> first
    | cases h; done
    | rw [eqL_eq (eqV_eq 20) h.1, Nat.eq_of_beq_eq_true h.2.1, Nat.eq_of_beq_eq_true h.2.2.1, eqBool_eq h.2.2.2]
    | rw [eqEs_eq h.1, Nat.eq_of_beq_eq_true h.2]
    | rw [eqON_eq h.1, Nat.eq_of_beq_eq_true h.2.1, eqNs_eq h.2.2.1, Nat.eq_of_beq_eq_true h.2.2.2]
def eqOO : Option AObj → Option AObj → Bool
  | some a, some b => eqO a b
  | _, _ => false
theorem eqOO_eq {a b : Option AObj} (h : eqOO a b = true) : a = b := by
  cases a <;> cases b <;> simp only [eqOO] at h <;> first | cases h; done | rw [eqO_eq h]

/-- of these names nothing more is said, where two heaps part -/
def dropDiff (a b : Tr) : List Nat → Tr → Tr
  | [], t => t
  | n :: r, t => match a.get n with
    | none => dropDiff a b r t
    | some x => (match eqOO (some x) (b.get n) with
      | true => dropDiff a b r t
      | false => dropDiff a b r (t.set 64 n none))
def upFrom : Nat → Nat → List Nat
  | _, 0 => []
  | a, n + 1 => a :: upFrom (a + 1) n
theorem mem_upFrom : ∀ {n a k : Nat}, k ∈ upFrom a n ↔ a ≤ k ∧ k < a + n
  | 0, a, k => by simp [upFrom]
  | n + 1, a, k => by
    simp only [upFrom, List.mem_cons, mem_upFrom (n := n)]
    omega
def meetH (n0 : Nat) (a b : AH) : AH :=
  { a with m := dropDiff a.m b.m (a.wrt ++ b.wrt ++ upFrom n0 (a.next - n0)) a.m, tch := b.tch ++ a.tch, wrt := b.wrt ++ a.wrt }
def small (l : List Nat) : Bool := allLt' 4611686018427387904 l
where allLt' (n : Nat) : List Nat → Bool
  | [] => true
  | k :: r => Nat.blt k n && allLt' n r
theorem small_spec : ∀ {l : List Nat}, small l = true → ∀ k ∈ l, k < 4611686018427387904
  | [], _, k, hk => by cases hk
  | x :: r, h, k, hk => by
    simp only [small, small.allLt', Bool.and_eq_true] at h
    rcases List.mem_cons.1 hk with rfl | hk
    · have := h.1; rwa [Nat.blt_eq] at this
    · exact small_spec h.2 k hk
theorem dropDiff_spec {a b : Tr} : ∀ {l : List Nat} {t : Tr}, (∀ n ∈ l, n < 4611686018427387904) → (∀ n, t.get n = a.get n ∨ t.get n = none) →
    (∀ n, (dropDiff a b l t).get n = a.get n ∨ (dropDiff a b l t).get n = none) ∧ (∀ n, n ∉ l → (dropDiff a b l t).get n = t.get n) ∧ (∀ n, t.get n = none → (dropDiff a b l t).get n = none) ∧ ∀ n ∈ l, ∀ o, (dropDiff a b l t).get n = some o → b.get n = some o
  | [], t, _, ht => ⟨ht, fun _ _ => rfl, fun _ h => h, fun n hn => by cases hn⟩
  | n :: r, t, hs, ht => by
    have hset : ∀ k, (t.set 64 n none).get k = if k = n then none else t.get k := fun k => by
      by_cases e : k = n
      · subst e; rw [if_pos rfl]; exact Tr.get_set_same 64 t k none (by have := hs k List.mem_cons_self; omega)
      · rw [if_neg e]; exact Tr.get_set_other 64 t n k none e
    have ht2 : ∀ k, (t.set 64 n none).get k = a.get k ∨ (t.set 64 n none).get k = none := fun k => by
      rw [hset]; split
      · exact .inr rfl
      · exact ht k
    have hs' : ∀ k ∈ r, k < 4611686018427387904 := fun k hk => hs k (List.mem_cons_of_mem _ hk)
    unfold dropDiff
    split
    · rename_i hn
      obtain ⟨h1, h2, h3, h4⟩ := dropDiff_spec (a := a) (b := b) hs' ht
      refine ⟨h1, fun k hk => h2 k (fun hh => hk (List.mem_cons_of_mem _ hh)), h3, fun k hk o ho => ?_⟩
      rcases List.mem_cons.1 hk with rfl | hk
      · rcases h1 k with h | h
        · rw [h, hn] at ho; cases ho
        · rw [h] at ho; cases ho
      · exact h4 k hk o ho
    · rename_i x hn
      split
      · rename_i he
        obtain ⟨h1, h2, h3, h4⟩ := dropDiff_spec (a := a) (b := b) hs' ht
        refine ⟨h1, fun k hk => h2 k (fun hh => hk (List.mem_cons_of_mem _ hh)), h3, fun k hk o ho => ?_⟩
        rcases List.mem_cons.1 hk with rfl | hk
        · rcases h1 k with h | h
          · rw [← eqOO_eq he, ← hn, ← h]; exact ho
          · rw [h] at ho; cases ho
        · exact h4 k hk o ho
      · obtain ⟨h1, h2, h3, h4⟩ := dropDiff_spec (a := a) (b := b) hs' ht2
        have hnone : (dropDiff a b r (t.set 64 n none)).get n = none := h3 n (by rw [hset, if_pos rfl])
        refine ⟨h1, fun k hk => ?_, fun k hk => h3 k ?_, fun k hk o ho => ?_⟩
        · rw [h2 k (fun hh => hk (List.mem_cons_of_mem _ hh)), hset, if_neg (fun e => hk (by rw [e]; exact List.mem_cons_self))]
        · rw [hset]; split
          · rfl
          · exact hk
        · rcases List.mem_cons.1 hk with rfl | hk
          · rw [hnone] at ho; cases ho
          · exact h4 k hk o ho

/-- one heap says no more than another one -/
structure Sub (q p : AH) : Prop where
  get : ∀ n o, q.get n = some o → p.get n = some o
  next : q.next = p.next
  base : q.base = p.base
  tch : ∀ n ∈ p.tch, n ∈ q.tch
  wrt : ∀ n ∈ p.wrt, n ∈ q.wrt
theorem Sub.refl (p : AH) : Sub p p := ⟨fun _ _ h => h, rfl, rfl, fun _ h => h, fun _ h => h⟩
theorem Sub.trans {a b c : AH} (h : Sub a b) (k : Sub b c) : Sub a c :=
  ⟨fun n o hh => k.get n o (h.get n o hh), h.next.trans k.next, h.base.trans k.base, fun n hn => h.tch n (k.tch n hn), fun n hn => h.wrt n (k.wrt n hn)⟩
/-- a heap that came of h0, in which what it wrote of before is noted -/
structure Came (h0 h : AH) : Prop where
  next : h0.next ≤ h.next
  base : h.base = h0.base
  keep : ∀ n, n < h0.next → n ∉ h.wrt → h.get n = h0.get n
  dom : ∀ n, n < h0.next → (h.get n).isSome → (h0.get n).isSome
  wf : WF h0 → WF h
theorem Came.of {h0 h : AH} (m : Mono h0 h) (hb : h0.base = h0.next) : Came h0 h := ⟨m.next, m.base, fun n hn hw => m.keep n hn (by omega) hw, m.dom, m.wf⟩
theorem meet_spec {h0 a b : AH} (ha : Came h0 a) (hb : Came h0 b) (hn : a.next = b.next) (hwf : WF h0) (hs : small (a.wrt ++ b.wrt ++ upFrom h0.next (a.next - h0.next)) = true) :
    Came h0 (meetH h0.next a b) ∧ Sub (meetH h0.next a b) a ∧ Sub (meetH h0.next a b) b := by
  obtain ⟨h1, h2, h3, h4⟩ := dropDiff_spec (a := a.m) (b := b.m) (t := a.m) (small_spec hs) (fun n => .inl rfl)
  have hget : ∀ n, (meetH h0.next a b).get n = a.get n ∨ (meetH h0.next a b).get n = none := h1
  have hup := ha.next
  refine ⟨⟨ha.next, ha.base, fun n hlt hw => ?_, fun n hlt hs => ?_, fun _ n hge => ?_⟩, ⟨fun n o ho => ?_, rfl, rfl, fun n hn => List.mem_append_right _ hn, fun n hn => List.mem_append_right _ hn⟩, ⟨fun n o ho => ?_, hn, ha.base.trans hb.base.symm, fun n hn => List.mem_append_left _ hn, fun n hn => List.mem_append_left _ hn⟩⟩
  · have hw1 : n ∉ b.wrt := fun hh => hw (List.mem_append_left _ hh)
    have hw2 : n ∉ a.wrt := fun hh => hw (List.mem_append_right _ hh)
    rw [← ha.keep n hlt hw2]
    refine h2 n (fun hh => ?_)
    rcases List.mem_append.1 hh with hh | hh
    · rcases List.mem_append.1 hh with hh | hh
      · exact hw2 hh
      · exact hw1 hh
    · have := (mem_upFrom.1 hh).1; omega
  · rcases hget n with h | h
    · rw [h] at hs; exact ha.dom n hlt hs
    · rw [h] at hs; cases hs
  · rcases hget n with h | h
    · rw [h]; exact ha.wf hwf n hge
    · exact h
  · rcases hget n with h | h
    · rw [← h]; exact ho
    · rw [h] at ho; cases ho
  · by_cases hm : n ∈ a.wrt ++ b.wrt ++ upFrom h0.next (a.next - h0.next)
    · exact h4 n hm o ho
    · have hw1 : n ∉ a.wrt := fun hh => hm (List.mem_append_left _ (List.mem_append_left _ hh))
      have hw2 : n ∉ b.wrt := fun hh => hm (List.mem_append_left _ (List.mem_append_right _ hh))
      have ho' : a.get n = some o := by
        rcases hget n with h | h
        · rw [← h]; exact ho
        · rw [h] at ho; cases ho
      by_cases hlt : n < h0.next
      · rw [hb.keep n hlt hw2, ← ha.keep n hlt hw1]; exact ho'
      · have hge : a.next ≤ n := by
          rcases Nat.lt_or_ge n a.next with h | h
          · exact absurd (List.mem_append_right _ (mem_upFrom.2 ⟨by omega, by omega⟩)) hm
          · exact h
        rw [ha.wf hwf n hge] at ho'; cases ho'
/-- an end is laid beside one that is alike -/
def insO (n0 : Nat) (p : Value × AH) : List (Value × AH) → List (Value × AH)
  | [] => [p]
  | q :: r => if eqV 20 q.1 p.1 && (Nat.beq q.2.next p.2.next && small (q.2.wrt ++ p.2.wrt ++ upFrom n0 (q.2.next - n0))) then (q.1, meetH n0 q.2 p.2) :: r else q :: insO n0 p r
theorem insO_spec {h0 : AH} (hwf : WF h0) {p : Value × AH} (hp : Came h0 p.2) : ∀ {l : List (Value × AH)}, (∀ q ∈ l, Came h0 q.2) →
    (∀ q ∈ insO h0.next p l, Came h0 q.2) ∧ (∃ q ∈ insO h0.next p l, q.1 = p.1 ∧ Sub q.2 p.2) ∧ ∀ x ∈ l, ∃ q ∈ insO h0.next p l, q.1 = x.1 ∧ Sub q.2 x.2
  | [], _ => ⟨fun q hq => by obtain rfl : q = p := by simpa [insO] using hq
                             exact hp, ⟨p, by simp [insO], rfl, Sub.refl _⟩, fun x hx => by cases hx⟩
  | q :: r, hl => by
    unfold insO
    split
    · rename_i hc
      simp only [Bool.and_eq_true] at hc
      obtain ⟨h1, h2, h3⟩ := meet_spec (hl q List.mem_cons_self) hp (Nat.eq_of_beq_eq_true hc.2.1) hwf hc.2.2
      refine ⟨fun x hx => ?_, ⟨_, List.mem_cons_self, eqV_eq _ _ _ hc.1, h3⟩, fun x hx => ?_⟩
      · rcases List.mem_cons.1 hx with rfl | hx
        · exact h1
        · exact hl x (List.mem_cons_of_mem _ hx)
      · rcases List.mem_cons.1 hx with rfl | hx
        · exact ⟨_, List.mem_cons_self, rfl, h2⟩
        · exact ⟨x, List.mem_cons_of_mem _ hx, rfl, Sub.refl _⟩
    · obtain ⟨h1, ⟨y, hy, h2⟩, h3⟩ := insO_spec hwf hp (l := r) (fun x hx => hl x (List.mem_cons_of_mem _ hx))
      refine ⟨fun x hx => ?_, ⟨y, List.mem_cons_of_mem _ hy, h2⟩, fun x hx => ?_⟩
      · rcases List.mem_cons.1 hx with rfl | hx
        · exact hl x List.mem_cons_self
        · exact h1 x hx
      · rcases List.mem_cons.1 hx with rfl | hx
        · exact ⟨x, List.mem_cons_self, rfl, Sub.refl _⟩
        · obtain ⟨z, hz, h4⟩ := h3 x hx
          exact ⟨z, List.mem_cons_of_mem _ hz, h4⟩
def mergeO (n0 : Nat) : List (Value × AH) → List (Value × AH)
  | [] => []
  | p :: r => insO n0 p (mergeO n0 r)
theorem mergeO_spec {h0 : AH} (hwf : WF h0) : ∀ {l : List (Value × AH)}, (∀ q ∈ l, Came h0 q.2) → (∀ q ∈ mergeO h0.next l, Came h0 q.2) ∧ ∀ x ∈ l, ∃ q ∈ mergeO h0.next l, q.1 = x.1 ∧ Sub q.2 x.2
  | [], _ => ⟨fun q hq => by simp [mergeO] at hq, fun x hx => by cases hx⟩
  | p :: r, hl => by
    obtain ⟨h1, h2⟩ := mergeO_spec hwf (l := r) (fun x hx => hl x (List.mem_cons_of_mem _ hx))
    obtain ⟨k1, k2, k3⟩ := insO_spec hwf (p := p) (hl p List.mem_cons_self) h1
    refine ⟨k1, fun x hx => ?_⟩
    rcases List.mem_cons.1 hx with rfl | hx
    · exact k2
    · obtain ⟨y, hy, e, hs⟩ := h2 x hx
      obtain ⟨z, hz, e2, hs2⟩ := k3 y hy
      exact ⟨z, hz, e2.trans e, hs2.trans hs⟩
theorem meet_came {h0 a b : AH} (ha : Came h0 a) (hb : Came h0 b) (hs : small (a.wrt ++ b.wrt ++ upFrom h0.next (a.next - h0.next)) = true) : Came h0 (meetH h0.next a b) := by
  obtain ⟨h1, h2, h3, h4⟩ := dropDiff_spec (a := a.m) (b := b.m) (t := a.m) (small_spec hs) (fun n => .inl rfl)
  have hget : ∀ n, (meetH h0.next a b).get n = a.get n ∨ (meetH h0.next a b).get n = none := h1
  refine ⟨ha.next, ha.base, fun n hlt hw => ?_, fun n hlt hs => ?_, fun hwf n hge => ?_⟩
  · have hw1 : n ∉ b.wrt := fun hh => hw (List.mem_append_left _ hh)
    have hw2 : n ∉ a.wrt := fun hh => hw (List.mem_append_right _ hh)
    rw [← ha.keep n hlt hw2]
    refine h2 n (fun hh => ?_)
    rcases List.mem_append.1 hh with hh | hh
    · rcases List.mem_append.1 hh with hh | hh
      · exact hw2 hh
      · exact hw1 hh
    · have := (mem_upFrom.1 hh).1; omega
  · rcases hget n with h | h
    · rw [h] at hs; exact ha.dom n hlt hs
    · rw [h] at hs; cases hs
  · rcases hget n with h | h
    · rw [h]; exact ha.wf hwf n hge
    · exact h
theorem insO_came {h0 : AH} {p : Value × AH} (hp : Came h0 p.2) : ∀ {l : List (Value × AH)}, (∀ q ∈ l, Came h0 q.2) → ∀ q ∈ insO h0.next p l, Came h0 q.2
  | [], _, q, hq => by
    obtain rfl : q = p := by simpa [insO] using hq
    exact hp
  | q :: r, hl, x, hx => by
    unfold insO at hx
    split at hx
    · rename_i hc
      simp only [Bool.and_eq_true] at hc
      rcases List.mem_cons.1 hx with rfl | hx
      · exact meet_came (hl q List.mem_cons_self) hp hc.2.2
      · exact hl x (List.mem_cons_of_mem _ hx)
    · rcases List.mem_cons.1 hx with rfl | hx
      · exact hl x List.mem_cons_self
      · exact insO_came hp (fun x hx => hl x (List.mem_cons_of_mem _ hx)) x hx
theorem mergeO_came {h0 : AH} : ∀ {l : List (Value × AH)}, (∀ q ∈ l, Came h0 q.2) → ∀ q ∈ mergeO h0.next l, Came h0 q.2
  | [], _, q, hq => by simp [mergeO] at hq
  | p :: r, hl, q, hq => insO_came (hl p List.mem_cons_self) (mergeO_came (fun x hx => hl x (List.mem_cons_of_mem _ hx))) q hq
theorem insO_ne (n0 : Nat) (p : Value × AH) (l : List (Value × AH)) : insO n0 p l ≠ [] := by
  cases l with
  | nil => simp [insO]
  | cons q r => unfold insO; split <;> simp
end Go.Proofs.Ytljhlnpbomehkaa
