/- A load of one zone whose keys are letters: its table's one row. -/
import Derived.Test.YtfakfnekcgkelaaLdG
import Derived.Test.YtfakfnekcgkelaaOpenRows
import Derived.Lib.LazyBuf
import Derived.Laws.BytesArg
namespace Go.Proofs.Ytfakfnekcgkelaa
open Go.RowKit Go.ChangeShapes Go.WideShapes Go.ChangeAt Go.Deep
set_option linter.unusedVariables false
set_option linter.unusedSimpArgs false

def kL (i : Nat) : By := [UInt8.ofNat (97 + i)]
theorem kL_lt {i j : Nat} (h : i < j) (hj : j < 100) : ltB (kL i) (kL j) := by
  unfold ltB kL
  rw [List.cons_lt_cons_iff]
  refine .inl ?_
  rw [UInt8.lt_iff_toNat_lt, UInt8.toNat_ofNat', UInt8.toNat_ofNat']
  omega
theorem kL_ne {i j : Nat} (h : i ≠ j) (hi : i < 100) (hj : j < 100) : kL i ≠ kL j := by
  intro e
  rcases Nat.lt_or_gt_of_ne h with h | h
  · exact sB.irr _ (by have := kL_lt h hj; rw [e] at this; exact this)
  · exact sB.irr _ (by have := kL_lt h hi; rw [e] at this; exact this)
theorem upd_end {α β : Type} [DecidableEq α] {lt : α → α → Prop} [DecidableRel lt] (H : Strict lt) (a : α) (f : Option β → β) : ∀ {l : List (α × β)}, (∀ q ∈ l, lt q.1 a) → upd lt a f l = l ++ [(a, f none)] ∧ ∀ v, upd lt a f (l ++ [(a, v)]) = l ++ [(a, f (some v))]
  | [], _ => by simp [upd]
  | (x, v) :: r, h => by
    have hx := h (x, v) List.mem_cons_self
    have h1 : ¬ a = x := fun e => H.irr x (by rw [e] at hx; exact hx)
    have h2 : ¬ lt a x := fun h2 => H.irr _ (H.tr hx h2)
    obtain ⟨i1, i2⟩ := upd_end H a f (fun q hq => h q (List.mem_cons_of_mem _ hq))
    refine ⟨?_, fun u => ?_⟩
    · simp only [upd, if_neg h1, if_neg h2, i1, List.cons_append]
    · simp only [List.cons_append, upd, if_neg h1, if_neg h2, i2 u]
/-- the letters from o on that were hit, and how often -/
def km : Nat → List Nat → Km
  | _, [] => []
  | o, c :: r => if c = 0 then km (o + 1) r else (kL o, (c : Int)) :: km (o + 1) r
theorem km_app : ∀ (o : Nat) (p : List Nat) (k : Nat), km o (p ++ [k]) = km o p ++ (if k = 0 then [] else [(kL (o + p.length), (k : Int))])
  | o, [], k => by simp [km]
  | o, c :: r, k => by
    simp only [List.cons_append, km, km_app (o + 1) r k, List.length_cons]
    rw [show o + 1 + r.length = o + (r.length + 1) by omega]
    split <;> simp
theorem km_lt : ∀ (o : Nat) (p : List Nat) (a : Nat), o + p.length ≤ a → a < 100 → ∀ q ∈ km o p, ltB q.1 (kL a)
  | o, [], a, _, _, q, h => by cases h
  | o, c :: r, a, h1, h2, q, h => by
    simp only [km] at h
    simp only [List.length_cons] at h1
    split at h
    · exact km_lt (o + 1) r a (by omega) h2 q h
    · rcases List.mem_cons.1 h with rfl | h
      · exact kL_lt (by omega) h2
      · exact km_lt (o + 1) r a (by omega) h2 q h
theorem km_len : ∀ (o : Nat) (p : List Nat), (km o p).length ≤ p.length
  | o, [] => by simp [km]
  | o, c :: r => by
    have := km_len (o + 1) r
    simp only [km]; split <;> simp <;> omega
theorem km_more {p : List Nat} {k : Nat} (hp : p.length < 26) : oneMore (kL p.length) (km 0 (p ++ [k])) = km 0 (p ++ [k + 1]) := by
  have hlt := km_lt 0 p p.length (by omega) (by omega)
  obtain ⟨i1, i2⟩ := upd_end sB (kL p.length) (fun c : Option Int => c.getD 0 + 1) hlt
  rw [km_app, km_app, Nat.zero_add, if_neg (by omega : ¬ k + 1 = 0)]
  unfold oneMore
  by_cases h : k = 0
  · subst h
    rw [if_pos rfl, List.append_nil, i1]; rfl
  · rw [if_neg h, i2]; simp
theorem get1_last {α β : Type} [DecidableEq α] {a : α} {v : β} : ∀ {l : List (α × β)}, (∀ q ∈ l, q.1 ≠ a) → get1 a l = none ∧ get1 a (l ++ [(a, v)]) = some v
  | [], _ => by simp [get1]
  | (x, u) :: r, h => by
    have hx := h (x, u) List.mem_cons_self
    obtain ⟨i1, i2⟩ := get1_last (a := a) (v := v) (fun q hq => h q (List.mem_cons_of_mem _ hq))
    simp only [List.cons_append, get1, if_neg hx]
    exact ⟨i1, i2⟩
def kof (m : Km) : Ks := if m = [] then [] else [(7, m)]
theorem kof_zone (m : Km) : zoneK (kof m) 7 = m := by
  unfold zoneK kof
  split
  · rename_i h; rw [h]; rfl
  · simp [get1]
theorem kof_hit {p : List Nat} {k : Nat} (hp : p.length < 26) (hk : k < 1000) : hitK (kof (km 0 (p ++ [k]))) 7 (kL p.length) = kof (km 0 (p ++ [k + 1])) := by
  have hne : ∀ q ∈ km 0 p, q.1 ≠ kL p.length := fun q hq e => sB.irr _ (by have := km_lt 0 p p.length (by omega) (by omega) q hq; rw [e] at this; exact this)
  have hc : cntK (kof (km 0 (p ++ [k]))) 7 (kL p.length) = k := by
    unfold cntK
    rw [kof_zone, km_app, Nat.zero_add]
    split
    · rename_i h; subst h
      rw [List.append_nil, (get1_last (v := (0 : Int)) hne).1]; rfl
    · rw [(get1_last hne).2]; rfl
  have hl := km_len 0 (p ++ [k])
  simp only [List.length_append, List.length_cons, List.length_nil] at hl
  have hok : okHitK (kof (km 0 (p ++ [k]))) 7 (kL p.length) := ⟨by decide, by simp [kL], by simp [kL], by rw [hc]; omega, by rw [hc, kof_zone]; omega⟩
  have hmore := km_more (k := k) hp
  unfold hitK
  rw [if_pos hok]
  have hne2 : km 0 (p ++ [k + 1]) ≠ [] := by rw [← hmore]; exact upd_ne _ _ _
  conv => rhs; unfold kof; rw [if_neg hne2]
  rw [← hmore]
  unfold kof
  split
  · rename_i h; rw [h]; rfl
  · simp [upd]
theorem km_next (p : List Nat) : km 0 (p ++ [0]) = km 0 p := by rw [km_app]; simp
/- its middle -/
def sumN (l : List Nat) : Int := (l.map fun c : Nat => (c : Int)).foldr (· + ·) 0
theorem sumN_cons (c : Nat) (r : List Nat) : sumN (c :: r) = c + sumN r := rfl
theorem sumN_nonneg : ∀ l : List Nat, 0 ≤ sumN l
  | [] => by simp [sumN]
  | c :: r => by rw [sumN_cons]; have := sumN_nonneg r; omega
theorem sumN_le : ∀ l : List Nat, (∀ n ∈ l, n < 16) → sumN l ≤ 15 * l.length
  | [], _ => by simp [sumN]
  | c :: r, h => by
    have h1 := h c List.mem_cons_self
    have h2 := sumN_le r (fun n hn => h n (List.mem_cons_of_mem _ hn))
    rw [sumN_cons, List.length_cons]; omega
theorem sumN_app (a b : List Nat) : sumN (a ++ b) = sumN a + sumN b := by
  induction a with
  | nil => simp [sumN]
  | cons c r ih => rw [List.cons_append, sumN_cons, sumN_cons, ih]; omega
theorem sumM_km : ∀ (o : Nat) (l : List Nat), sumM (km o l) = sumN l
  | o, [] => rfl
  | o, c :: r => by
    have ih := sumM_km (o + 1) r
    rw [sumN_cons]
    simp only [km]
    split
    · rename_i h; rw [ih, h]; omega
    · unfold sumM at ih ⊢
      rw [List.map_cons, List.foldr_cons, ih]
theorem mid_km (S : Int) : ∀ (o : Nat) (a : Int) (l : List Nat), S ≤ 2 * (a + sumN l) → 2 * a < S → ∃ j, j < l.length ∧ midM S a (km o l) = kL (o + j) ∧ 2 * (a + sumN (l.take j)) < S ∧ S ≤ 2 * (a + sumN (l.take (j + 1)))
  | o, a, [], h1, h2 => by simp [sumN] at h1; omega
  | o, a, c :: r, h1, h2 => by
    rw [sumN_cons] at h1
    by_cases hc : c = 0
    · subst hc
      obtain ⟨j, g1, g2, g3, g4⟩ := mid_km S (o + 1) a r (by omega) h2
      refine ⟨j + 1, by simp; omega, ?_, ?_, ?_⟩
      · simp only [km, if_true]; rw [g2, show o + 1 + j = o + (j + 1) by omega]
      · rw [List.take_succ_cons, sumN_cons]; omega
      · rw [List.take_succ_cons, sumN_cons]; omega
    · simp only [km, if_neg hc, midM]
      by_cases h3 : S ≤ 2 * (a + c)
      · rw [if_pos h3]
        refine ⟨0, by simp, rfl, by simp [sumN]; omega, ?_⟩
        rw [List.take_succ_cons, sumN_cons]; simp [sumN]; omega
      · rw [if_neg h3]
        obtain ⟨j, g1, g2, g3, g4⟩ := mid_km S (o + 1) (a + c) r (by omega) (by omega)
        refine ⟨j + 1, by simp; omega, ?_, ?_, ?_⟩
        · rw [g2, show o + 1 + j = o + (j + 1) by omega]
        · rw [List.take_succ_cons, sumN_cons]; omega
        · rw [List.take_succ_cons, sumN_cons]; omega
theorem km_nil_of {l : List Nat} (h : sumN l = 0) : ∀ o, km o l = [] := by
  induction l with
  | nil => intro o; rfl
  | cons c r ih =>
    intro o
    rw [sumN_cons] at h
    have := sumN_nonneg r
    have hc : c = 0 := by omega
    subst hc
    simp only [km, if_true]
    exact ih (by omega) (o + 1)
theorem conv1 {W : World} {g : Nat} {v : Nat} (h : W.cell? ⟨g, 0, none⟩ = some (.int .u8 (v : Int))) (hv : v < 256) (c : Nat) : (convert 41 9 (.slice (some ⟨g, 0, none⟩) 1 c)).run Try.prog W = .ok (.string ⟨#[UInt8.ofNat v]⟩) W := by
  have e : strOfNums [(v : Int)] = ⟨#[UInt8.ofNat v]⟩ := by
    have := Go.Lib.Lz.strOfNums_map [UInt8.ofNat v]
    simp only [List.map_cons, List.map_nil, UInt8.toNat_ofNat'] at this
    rw [Nat.mod_eq_of_lt (by omega)] at this
    exact this
  rw [← e]
  refine run_convert_bytes_arg W _ _ Try.underlying41 Try.underlying5 g 0 1 c [(v : Int)] (by simp) (fun i hi => ?_) _ Try.underlying9
  have hi0 : i = 0 := by simpa using hi
  subst hi0
  simp [h]
theorem read_int {H : Type} {enc : TypeId × Value → H} {W : World} : ∀ fuel cs x, DataW.trod enc Try.prog W 0 (fun _ => true) true fuel 3 cs = some x → ∃ r : Int, cs = [.int .i64 r] ∧ (Lit.int .i64 r).wf = true := by
  intro fuel cs x h
  obtain ⟨k, e0, _, w0⟩ := DataW.trod_int Try.underlying3 h
  exact ⟨k, e0, by assumption⟩
theorem open_intsR {H : Type} {enc : TypeId × Value → H} {W : World} {base : Nat} {v : Value} {d : DataW H} {p : List MemPlace}
    (hv : Value.okWide Try.prog W .any base 40 v) (h : DataW.Trod enc Try.prog W 0 (fun _ => true) true 40 v d p) :
    ∃ (A : Option Addr) (c : Nat) (xs : List Int), v = .slice A xs.length c ∧ xs.length ≤ c ∧ c ≤ maxLen ∧ (∀ r ∈ xs, (Lit.int .i64 r).wf = true) ∧ Cells W W.heap.size A xs.length c 1 (xs.flatMap fun r => [.int .i64 r]) :=
  open_rows (fun r : Int => [.int .i64 r]) (fun r => (Lit.int .i64 r).wf = true) 1 (by omega) (fun _ => rfl) 0 Try.underlying40 (by kernel_rfl) read_int hv h
theorem int_at {w : World} {B c : Nat} {A : Option Addr} {xs : List Int} (h : Cells w B A xs.length c 1 (xs.flatMap fun r => [.int .i64 r])) {i : Nat} (hi : i < xs.length) : ∃ b o, A = some ⟨b, o, none⟩ ∧ b < B ∧ w.cell? ⟨b, o + i, none⟩ = some (.int .i64 xs[i]) := by
  have g := flat_get (fun r : Int => [Value.int .i64 r]) 1 (fun _ => rfl) xs i 0 (by omega)
  rw [List.getElem?_eq_getElem hi] at g
  obtain ⟨b, o, e0, hb, c0⟩ := h.2.2 (i * 1 + 0) (.int .i64 xs[i]) (by rw [g]; rfl)
  exact ⟨b, o, e0, hb, by simpa using c0⟩
theorem letter_at (j : Nat) (hj : j < 100) (s : ByteArray) (hs : s = ⟨#[UInt8.ofNat (97 + j)]⟩) (h : 0 < s.size) : ((s[0]'h).toNat : Int) = 97 + (j : Int) := by
  subst hs
  show ((UInt8.ofNat (97 + j)).toNat : Int) = _
  rw [UInt8.toNat_ofNat']
  omega
theorem letter_wrap {a j : Int} (h : a = 97 + j) (h0 : 0 ≤ j) (h1 : j < 100) : wrap64 (wrap64 a - 97) = j := by
  subst h
  unfold wrap64
  omega
end Go.Proofs.Ytfakfnekcgkelaa
