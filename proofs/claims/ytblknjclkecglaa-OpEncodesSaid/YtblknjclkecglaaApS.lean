/- OpApart returns true: the walk of the statement. -/
import Derived.Test.YtblknjclkecglaaApA
import Derived.Test.YtblknjclkecglaaOpKn
import Derived.Deep.RegionHeld3
import Derived.Lib.Bytes
namespace Go.Proofs.Ytblknjclkecglaa
open Go.RowKit
set_option linter.unusedVariables false
set_option linter.unusedSimpArgs false

/-- bytes as a text -/
def strU (xs : List Nat) : ByteArray := strOfNums (xs.map fun x : Nat => (x : Int))
theorem own_cases' {w : World} {base : Nat} {v : Value} {xs : List Nat} (h : w.ownsRow base 5 1 v xs.length (flatU xs)) : (v = .slice none 0 0 ∧ xs = []) ∨ ∃ g cap, v = .slice (some ⟨g, 0, none⟩) xs.length cap := by
  rcases h.2 with ⟨hv, h0⟩ | ⟨g, cap, cur, hv, _⟩
  · exact .inl ⟨hv, List.eq_nil_of_length_eq_zero h0⟩
  · exact .inr ⟨g, cap, hv⟩
theorem conv_own {w : World} {base : Nat} {v : Value} {xs : List Nat} (h : w.ownsRow base 5 1 v xs.length (flatU xs)) : (convert 27 9 v).run Try.prog w = .ok (.string (strU xs)) w := by
  rcases own_cases' h with ⟨rfl, rfl⟩ | ⟨g, cap, rfl⟩
  · exact run_convert_bytes_nil w _ _ Try.underlying27 Try.underlying5 0 0 _ Try.underlying9
  · refine run_convert_bytes_arg w _ _ Try.underlying27 Try.underlying5 g 0 _ cap _ (by simp) (fun i hi => ?_) _ Try.underlying9
    have := h.cells (g := g) rfl i (.int .u8 (xs[i] : Nat)) (by simp [flatU, hi])
    rw [add_none] at this
    rw [this]
    simp [List.getD, hi]
theorem strU_inj {xs ys : List Nat} (hx : ∀ x ∈ xs, x < 256) (hy : ∀ y ∈ ys, y < 256) (h : strU xs = strU ys) : xs = ys := by
  have h1 : (strU xs).data.toList = (strU ys).data.toList := by rw [h]
  unfold strU at h1
  rw [strOfNums_data, strOfNums_data, List.map_map, List.map_map] at h1
  have h2 := congrArg (List.map fun b : UInt8 => b.toNat) h1
  rw [List.map_map, List.map_map] at h2
  have e : ∀ l : List Nat, (∀ x ∈ l, x < 256) → l.map ((fun b : UInt8 => b.toNat) ∘ ((fun n : Int => UInt8.ofNat n.toNat) ∘ fun x : Nat => (x : Int))) = l := fun l hl => by
    have : l.map ((fun b : UInt8 => b.toNat) ∘ ((fun n : Int => UInt8.ofNat n.toNat) ∘ fun x : Nat => (x : Int))) = l.map id := List.map_congr_left (fun x hx => by
      have := hl x hx
      simp [Function.comp]; omega)
    rw [this, List.map_id]
  rw [e xs hx, e ys hy] at h2
  exact h2
theorem encs_byte (l : List Int) : ∀ x ∈ encs l, x < 256 := by
  intro x hx
  simp only [encs, List.mem_flatMap] at hx
  obtain ⟨n, _, h⟩ := hx
  exact enc_byte _ x h
theorem bs_byte (s : ByteArray) : ∀ x ∈ bs s, x < 256 := by
  intro x hx
  unfold bs at hx
  obtain ⟨b, _, rfl⟩ := List.mem_map.1 hx
  exact b.toNat_lt
theorem opBs_byte (k cl sq : Int) (ak aw tk tw : ByteArray) (it ct pr : Int) (bu : Bool) (id : Int) : ∀ x ∈ opBs k cl sq ak aw tk tw it ct pr bu id, x < 256 := by
  intro x hx
  unfold opBs at hx
  rcases List.mem_append.1 hx with hx | hx
  · rcases List.mem_append.1 hx with hx | hx
    · exact encs_byte _ x hx
    · simp only [encb, List.mem_flatMap] at hx
      obtain ⟨l, hl, hx⟩ := hx
      rcases List.mem_append.1 hx with hx | hx
      · exact enc_byte _ x hx
      · simp only [List.mem_cons, List.not_mem_nil, or_false] at hl
        rcases hl with rfl | rfl | rfl | rfl <;> exact bs_byte _ x hx
  · exact encs_byte _ x hx
theorem beq_dec (a b : List UInt8) : (a == b) = decide (a = b) := by
  by_cases h : a = b
  · rw [decide_eq_true h, h]; exact beq_self_eq_true _
  · rw [decide_eq_false h]; exact beq_eq_false_iff_ne.2 h
theorem strEqR (a b : ByteArray) (w : World) : (binOp .eql 9 (.string a) (.string b)).run Try.prog w = .ok (.bool (decide (a.toList = b.toList))) w := by
  go_simp
  by_cases h : a.toList = b.toList
  · rw [decide_eq_true h, h]; exact beq_self_eq_true _
  · rw [decide_eq_false h]; exact beq_eq_false_iff_ne.2 h
theorem toList_inj {a b : ByteArray} (h : a.toList = b.toList) : a = b := by
  rw [ByteArray.toList_eq, ByteArray.toList_eq] at h
  cases a; cases b
  simp only [ByteArray.mk.injEq]
  exact Array.ext' h
/-- two requests that may be are one just where their bytes are -/
theorem eq_bytes {k cl sq : Int} {ak aw tk tw : ByteArray} {it ct pr : Int} {bu : Bool} {id : Int} {k' cl' sq' : Int} {ak' aw' tk' tw' : ByteArray} {it' ct' pr' : Int} {bu' : Bool} {id' : Int} (hm : mB k cl sq ak aw tk tw it ct pr bu id = true) (hm' : mB k' cl' sq' ak' aw' tk' tw' it' ct' pr' bu' id' = true) :
    opEqB k cl sq ak aw tk tw it ct pr bu id k' cl' sq' ak' aw' tk' tw' it' ct' pr' bu' id' = decide ((strU (opBs k cl sq ak aw tk tw it ct pr bu id)).toList = (strU (opBs k' cl' sq' ak' aw' tk' tw' it' ct' pr' bu' id')).toList) := by
  by_cases h : (strU (opBs k cl sq ak aw tk tw it ct pr bu id)).toList = (strU (opBs k' cl' sq' ak' aw' tk' tw' it' ct' pr' bu' id')).toList
  · rw [decide_eq_true h]
    obtain ⟨rfl, rfl, rfl, rfl, rfl, rfl, rfl, rfl, rfl, rfl, rfl, rfl⟩ := opBs_inj hm hm' (strU_inj (opBs_byte k cl sq ak aw tk tw it ct pr bu id) (opBs_byte k' cl' sq' ak' aw' tk' tw' it' ct' pr' bu' id') (toList_inj h))
    simp [opEqB]
  · rw [decide_eq_false h]
    unfold opEqB
    refine decide_eq_false (fun hh => h ?_)
    obtain ⟨rfl, rfl, rfl, h4, h5, h6, h7, rfl, rfl, rfl, rfl, rfl⟩ := hh
    obtain rfl := toList_inj h4
    obtain rfl := toList_inj h5
    obtain rfl := toList_inj h6
    obtain rfl := toList_inj h7
    rfl
end Go.Proofs.Ytblknjclkecglaa
