/- Bytes as texts. A block that is known whole (XBlk's first half: never beside XBlk). A Reader beside a block that is known whole (XBlk's second half, beside XWhl). What span.Is, In and Cut, and the law's own helpers, return: one contract each. What span.Within  -/
import Derived.Test.YtbohpjinkdffhaaProg
import Derived.WalkKit
import Derived.WalkSpells
import Derived.WalkLawsBesides
import Derived.Deep.QuietTactic
import Derived.BigQuiet
import Derived.RegionTactic
import Derived.BigRegion
import Derived.Outline
import Derived.LoopTactic
import Derived.Lib.Hide
import Derived.Deep.RegionHeld3
import Derived.Laws.AppendOwnNone
import Derived.Deep.AppendLies
import Derived.Deep.Light
import Derived.Laws.BytesArg
import Derived.Maps.AppendAt
import Derived.Laws.Rows
import Derived.Lib.VarintBits
import Derived.Deep.Heap
import Derived.IntWalk
import GoSem.Op.String
import Derived.Lib.Strings
import Derived.Deep.Cut
import Derived.StillTailTactics
import Derived.Test.YtbohpjinkdffhaaDbu0
import Derived.Test.YtbohpjinkdffhaaDbu1
import Derived.Test.YtbohpjinkdffhaaDbu3
namespace Go.Proofs.Ytbohpjinkdffhaa
open Go.RowKit
set_option linter.unusedVariables false
set_option linter.unusedSimpArgs false
/-- bytes as a text -/
def strU (xs : List Nat) : ByteArray := strOfNums (xs.map fun x : Nat => (x : Int))
theorem own_cases' {w : World} {base : Nat} {v : Value} {xs : List Nat} (h : w.ownsRow base 5 1 v xs.length (flatU xs)) : (v = .slice none 0 0 ∧ xs = []) ∨ ∃ g cap, v = .slice (some ⟨g, 0, none⟩) xs.length cap := by
  rcases h.2 with ⟨hv, h0⟩ | ⟨g, cap, cur, hv, _⟩
  · exact .inl ⟨hv, List.eq_nil_of_length_eq_zero h0⟩
  · exact .inr ⟨g, cap, hv⟩
theorem conv_own {w : World} {base : Nat} {v : Value} {xs : List Nat} (h : w.ownsRow base 5 1 v xs.length (flatU xs)) : (convert 50 9 v).run Try.prog w = .ok (.string (strU xs)) w := by
  rcases own_cases' h with ⟨rfl, rfl⟩ | ⟨g, cap, rfl⟩
  · exact run_convert_bytes_nil w _ _ Try.underlying50 Try.underlying5 0 0 _ Try.underlying9
  · refine run_convert_bytes_arg w _ _ Try.underlying50 Try.underlying5 g 0 _ cap _ (by simp) (fun i hi => ?_) _ Try.underlying9
    have := h.cells (g := g) rfl i (.int .u8 (xs[i] : Nat)) (by simp [flatU, hi])
    rw [add_none] at this
    rw [this]
    simp [List.getD, hi]
end Go.Proofs.Ytbohpjinkdffhaa
namespace Go.Proofs.Ytbohpjinkdffhaa
open Go.RowKit
set_option linter.unusedVariables false
set_option linter.unusedSimpArgs false
/-- block g is just these cells -/
def Whl (w : World) (g : Nat) (t : TypeId) (cs : Array Value) : Prop := w.heap[g]? = some (.cells cs t (0, 0))
theorem Whl.low {w : World} {g : Nat} {t : TypeId} {cs : Array Value} (h : Whl w g t cs) : g < w.heap.size := (Array.getElem?_eq_some_iff.1 h).1
theorem Whl.cell {w : World} {g : Nat} {t : TypeId} {cs : Array Value} (h : Whl w g t cs) (i : Nat) : w.cell? ⟨g, i, none⟩ = cs[i]? := cell_of_row w g i cs t (0, 0) h
theorem Whl.free {w : World} {g : Nat} {t : TypeId} {cs : Array Value} (h : Whl w g t cs) (i : Nat) : w.frozen? ⟨g, i, none⟩ = false := by
  unfold Whl at h
  simp [World.frozen?, h]
theorem Whl.below {w w' : World} {g B : Nat} {t : TypeId} {cs : Array Value} (h : Whl w g t cs) (hb : Below B w w') (hB : g < B) : Whl w' g t cs := (hb.block g hB).trans h
theorem Whl.set {w : World} {g : Nat} {t : TypeId} {cs : Array Value} (h : Whl w g t cs) (i : Nat) (v : Value) : Whl (w.setCell ⟨g, i, none⟩ v) g t (cs.setIfInBounds i v) := by
  unfold Whl at *
  simp [World.setCell, Array.getElem?_modify, h]
theorem Whl.far {w : World} {g : Nat} {t : TypeId} {cs : Array Value} (h : Whl w g t cs) {a : Addr} {v : Value} (ha : g ≠ a.block) : Whl (w.setCell a v) g t cs := (Below.heap_setCell w a v g ha).trans h
theorem Whl.new {w : World} {t : TypeId} {cs : Array Value} {n : Nat} (hn : n = w.heap.size) : Whl (w.alloc (.cells cs t)) n t cs := by subst hn; exact heap_alloc_new w _
theorem Whl.alloc {w : World} {g : Nat} {t : TypeId} {cs : Array Value} (h : Whl w g t cs) (o : Obj) : Whl (w.alloc o) g t cs := (Below.heap_alloc w o g h.low).trans h
theorem Whl.drew {w : World} {g : Nat} {t : TypeId} {cs : Array Value} (h : Whl w g t cs) : Whl w.drew g t cs := h
end Go.Proofs.Ytbohpjinkdffhaa
namespace Go.Proofs.Ytbohpjinkdffhaa
open Go.RowKit
set_option linter.unusedVariables false
set_option linter.unusedSimpArgs false
/-- none of the cells is a byte -/
def noU8 (cs : Array Value) : Prop := ∀ (i : Nat) (x : Int), cs[i]? ≠ some (.int .u8 x)
theorem flatU_is {xs : List Nat} {j : Nat} {u : Value} (h : (flatU xs)[j]? = some u) : ∃ x : Int, u = .int .u8 x := by
  simp only [flatU, List.getElem?_map, Option.map_eq_some_iff] at h
  obtain ⟨x, _, rfl⟩ := h
  exact ⟨_, rfl⟩
theorem RS.setBlk {w : World} {b g i : Nat} {t : TypeId} {cs : Array Value} {st : Option (List Nat)} (h : RS w b st) (hg : Whl w g t cs) (hn : noU8 cs) (hne : g ≠ b) (v : Value) : RS (w.setCell ⟨g, i, none⟩ v) b st := by
  obtain ⟨A, c, h0, h1, h2, h3⟩ := h.rd.row
  refine ⟨⟨⟨A, c, c_set_other (Or.inl hne) h0, h1, h2, h3.1, h3.2.1, fun j u hu => ?_⟩, c_set_other (Or.inl hne) h.rd.flag, fun j => f_set (h.rd.free j), by have := h.low; simpa [World.setCell] using this⟩, h.len, h.byt⟩
  obtain ⟨q, o, e, hq, hc⟩ := h3.2.2 j u hu
  refine ⟨q, o, e, hq, c_set_other (Or.inl ?_) hc⟩
  rintro rfl
  obtain ⟨x, rfl⟩ := flatU_is hu
  rw [hg.cell] at hc
  exact hn _ _ hc
theorem RS.alloc {w : World} {b : Nat} {st : Option (List Nat)} (h : RS w b st) (o : Obj) : RS (w.alloc o) b st := h.below (B := w.heap.size) ((Below.refl _ _).alloc (Nat.le_refl _) _) h.low
end Go.Proofs.Ytbohpjinkdffhaa
namespace Go.Proofs.Ytbohpjinkdffhaa
open Go.RowKit
set_option linter.unusedVariables false
set_option linter.unusedSimpArgs false
/-- what a span is -/
def isB (f t : ByteArray) : Bool := decide ((f.size : Int) ≤ 16) && decide ((t.size : Int) ≤ 16) && (t.toList.isEmpty || !(Op.bytesLess t.toList f.toList || t.toList == f.toList))
/-- what keys a span has -/
def inB (f t k : ByteArray) : Bool := isB f t && decide (1 ≤ (k.size : Int)) && decide ((k.size : Int) ≤ 16) && !(Op.bytesLess k.toList f.toList) && (t.toList.isEmpty || Op.bytesLess k.toList t.toList)
def cutB (f t k : ByteArray) : Bool := inB f t k && !(Op.bytesLess k.toList f.toList || k.toList == f.toList)
theorem spanIs (f t : ByteArray) (w : World) :
    Calls Try.prog 65 #[.agg #[.string f, .string t]] w fun e w' => e = .returned (.bool (isB f t)) ∧ Below w.heap.size w w' := by
  go_enter Try.func65, Try.ntmps65
  go_wp2
  all_goals go_ret
  all_goals refine ⟨ret_bool ?_, ?_⟩
  all_goals first | ((repeat (first | (with_reducible exact Below.refl _ _) | (with_reducible assumption) | ((with_reducible refine b_set ?_ ?_); · (first | omega | (simp; done) | (simp; omega))) | ((with_reducible refine b_alloc ?_ ?_); · (first | omega | (simp; done) | (simp; omega))) | (with_reducible refine Below.drew ?_) | (with_reducible refine b_drewN ?_) | ((with_reducible refine b_call (by assumption) ?_ ?_); · (first | omega | (simp; done) | (simp; omega))))); done) | (simp [isB, *]; done) | (simp [isB, *]; omega)
theorem spanIn (f t k : ByteArray) (w : World) :
    Calls Try.prog 35 #[.agg #[.string f, .string t], .string k] w fun e w' => e = .returned (.bool (inB f t k)) ∧ Below w.heap.size w w' := by
  go_enter Try.func35, Try.ntmps35
  go_wp2_with fail
  refine (spanIs _ _ _).mono ?_
  rintro e w1 ⟨rfl, hb⟩
  obtain ⟨hc, hf⟩ := bcell hb
  go_wp2_with fail
  all_goals go_ret
  all_goals clear hc hf
  all_goals refine ⟨ret_bool ?_, ?_⟩
  all_goals first | ((repeat (first | (with_reducible exact Below.refl _ _) | (with_reducible assumption) | ((with_reducible refine b_set ?_ ?_); · (first | omega | (simp; done) | (simp; omega))) | ((with_reducible refine b_alloc ?_ ?_); · (first | omega | (simp; done) | (simp; omega))) | (with_reducible refine Below.drew ?_) | (with_reducible refine b_drewN ?_) | ((with_reducible refine b_call (by assumption) ?_ ?_); · (first | omega | (simp; done) | (simp; omega))))); done) | (clear hb; simp [inB, *]; done) | (clear hb; simp [inB, *]; omega)
theorem spanCut1 (f t k : ByteArray) (w : World) (h : cutB f t k = true) :
    Calls Try.prog 89 #[.agg #[.string f, .string t], .string k] w fun e w' => e = .returned (.tuple #[.agg #[.string f, .string k], .agg #[.string k, .string t], .bool true]) ∧ Below w.heap.size w w' := by
  simp only [cutB, Bool.and_eq_true, Bool.not_eq_true', Bool.or_eq_false_iff] at h
  obtain ⟨h1, h2, h3⟩ := h
  go_enter Try.func89, Try.ntmps89
  go_wp2_with fail
  refine (spanIn _ _ _ _).mono ?_
  rintro e w1 ⟨rfl, hb⟩
  obtain ⟨hc, hf⟩ := bcell hb
  go_wp2_with fail
  go_region
  all_goals go_wp2
  all_goals refine bodyPost_ret (v := .tuple #[.agg #[.string f, .string k], .agg #[.string k, .string t], .bool true]) (by simp [results, Try.results89, go_sem, hc]) rfl ⟨rfl, ?_⟩
  all_goals clear hc hf
  all_goals ((repeat (first | (with_reducible exact Below.refl _ _) | (with_reducible assumption) | ((with_reducible refine b_set ?_ ?_); · (first | omega | (simp; done) | (simp; omega))) | ((with_reducible refine b_alloc ?_ ?_); · (first | omega | (simp; done) | (simp; omega))) | (with_reducible refine Below.drew ?_) | (with_reducible refine b_drewN ?_) | ((with_reducible refine b_call (by assumption) ?_ ?_); · (first | omega | (simp; done) | (simp; omega))))); done)
theorem spanCut0 (f t k : ByteArray) (w : World) (h : cutB f t k = false) :
    Calls Try.prog 89 #[.agg #[.string f, .string t], .string k] w fun e w' => e = .returned (.tuple #[.agg #[.string ⟨#[]⟩, .string ⟨#[]⟩], .agg #[.string ⟨#[]⟩, .string ⟨#[]⟩], .bool false]) ∧ Below w.heap.size w w' := by
  go_enter Try.func89, Try.ntmps89
  by_cases h2 : (Op.bytesLess k.toList f.toList || k.toList == f.toList) = true
  · go_wp2_with fail
    all_goals refine bodyPost_ret (v := .tuple #[.agg #[.string ⟨#[]⟩, .string ⟨#[]⟩], .agg #[.string ⟨#[]⟩, .string ⟨#[]⟩], .bool false]) (by simp [results, Try.results89, go_sem]) rfl ⟨rfl, ?_⟩
    all_goals ((repeat (first | (with_reducible exact Below.refl _ _) | (with_reducible assumption) | ((with_reducible refine b_set ?_ ?_); · (first | omega | (simp; done) | (simp; omega))) | ((with_reducible refine b_alloc ?_ ?_); · (first | omega | (simp; done) | (simp; omega))) | (with_reducible refine Below.drew ?_) | (with_reducible refine b_drewN ?_) | ((with_reducible refine b_call (by assumption) ?_ ?_); · (first | omega | (simp; done) | (simp; omega))))); done)
  · have h3 : inB f t k = false := by
      cases hi : inB f t k
      · rfl
      · simp_all [cutB]
    simp only [Bool.not_eq_true, Bool.or_eq_false_iff] at h2
    obtain ⟨h4, h5⟩ := h2
    go_wp2_with fail
    refine (spanIn _ _ _ _).mono ?_
    rintro e w1 ⟨rfl, hb⟩
    obtain ⟨hc, hf⟩ := bcell hb
    go_wp2_with fail
    all_goals refine bodyPost_ret (v := .tuple #[.agg #[.string ⟨#[]⟩, .string ⟨#[]⟩], .agg #[.string ⟨#[]⟩, .string ⟨#[]⟩], .bool false]) (by simp [results, Try.results89, go_sem, hc]) rfl ⟨rfl, ?_⟩
    all_goals clear hc hf
    all_goals ((repeat (first | (with_reducible exact Below.refl _ _) | (with_reducible assumption) | ((with_reducible refine b_set ?_ ?_); · (first | omega | (simp; done) | (simp; omega))) | ((with_reducible refine b_alloc ?_ ?_); · (first | omega | (simp; done) | (simp; omega))) | (with_reducible refine Below.drew ?_) | (with_reducible refine b_drewN ?_) | ((with_reducible refine b_call (by assumption) ?_ ?_); · (first | omega | (simp; done) | (simp; omega))))); done)
end Go.Proofs.Ytbohpjinkdffhaa
namespace Go.Proofs.Ytbohpjinkdffhaa
open Go.RowKit
set_option linter.unusedVariables false
set_option linter.unusedSimpArgs false
def joinB (f t g u : ByteArray) : Bool := isB f t && isB g u && !t.toList.isEmpty && t.toList == g.toList
end Go.Proofs.Ytbohpjinkdffhaa
namespace Go.Proofs.Ytbohpjinkdffhaa
theorem bytesLess_eq : ∀ (x y : List UInt8), Op.bytesLess x y = decide (x < y)
  | [], [] => by simp [Op.bytesLess]
  | _ :: _, [] => by simp [Op.bytesLess]
  | [], _ :: _ => by simp [Op.bytesLess]
  | a :: x, b :: y => by
    rw [Op.bytesLess, bytesLess_eq x y]
    simp only [List.cons_lt_cons_iff]
    by_cases h1 : a < b <;> by_cases h2 : a = b <;> by_cases h3 : x < y <;> simp [h1, h2, h3]
theorem less_irrefl (a : List UInt8) : Op.bytesLess a a = false := by rw [bytesLess_eq]; simp [List.lt_irrefl]
theorem less_asymm {a b : List UInt8} (h : Op.bytesLess a b = true) : Op.bytesLess b a = false := by
  rw [bytesLess_eq] at *; simp only [decide_eq_true_eq, decide_eq_false_iff_not] at *; exact List.lt_asymm h
theorem less_eq {a b : List UInt8} (h : Op.bytesLess a b = false) (h2 : Op.bytesLess b a = false) : a = b := by
  rw [bytesLess_eq] at *; simp only [decide_eq_false_iff_not] at *; exact List.le_antisymm (List.not_lt.1 h2) (List.not_lt.1 h)
theorem nil_less {a : List UInt8} (h : a ≠ []) : Op.bytesLess [] a = true := by cases a with | nil => exact absurd rfl h | cons x y => rfl
theorem nonempty_of {s : ByteArray} (h : 1 ≤ s.size) : s.toList.isEmpty = false := by
  rw [Lib.toList_data]; cases hd : s.data.toList with
  | nil => have : s.data.size = 0 := by rw [← Array.length_toList, hd]; rfl
           exact absurd h (by show ¬ 1 ≤ s.data.size; omega)
  | cons x y => rfl
theorem empty_of {s : ByteArray} (h : s.toList.isEmpty = true) : s.toList = [] := by cases hs : s.toList with | nil => rfl | cons x y => rw [hs] at h; exact absurd h (by simp)
end Go.Proofs.Ytbohpjinkdffhaa
namespace Go.Proofs.Ytbohpjinkdffhaa
open Go.RowKit
theorem isB_iff {f t : ByteArray} : isB f t = true ↔ f.size ≤ 16 ∧ t.size ≤ 16 ∧ (t.toList.isEmpty = true ∨ Op.bytesLess f.toList t.toList = true) := by
  unfold isB
  simp only [Bool.and_eq_true, decide_eq_true_eq, Bool.or_eq_true, Bool.not_eq_true', Bool.or_eq_false_iff]
  constructor
  · rintro ⟨⟨h1, h2⟩, h3⟩
    refine ⟨by omega, by omega, ?_⟩
    rcases h3 with h3 | ⟨h3, h4⟩
    · exact .inl h3
    · right
      cases h5 : Op.bytesLess f.toList t.toList
      · have := less_eq h5 h3
        rw [this] at h4; simp at h4
      · rfl
  · rintro ⟨h1, h2, h3⟩
    refine ⟨⟨by omega, by omega⟩, ?_⟩
    rcases h3 with h3 | h3
    · exact .inl h3
    · right
      refine ⟨less_asymm h3, ?_⟩
      cases h5 : t.toList == f.toList
      · rfl
      · rw [beq_iff_eq] at h5
        rw [h5, less_irrefl] at h3; cases h3
end Go.Proofs.Ytbohpjinkdffhaa
namespace Go.Proofs.Ytbohpjinkdffhaa
set_option linter.unusedVariables false
set_option linter.unusedSimpArgs false
structure Zn where
  id : Int
  fr : ByteArray
  tt : ByteArray
  ow : Int
  ep : Int
  pd : Int
  mv : Int
  ky : ByteArray
  nw : Int
def znV (z : Zn) : List Value := [.int .i64 z.id, .string z.fr, .string z.tt, .int .i64 z.ow, .int .i64 z.ep, .int .i64 z.pd, .int .i64 z.mv, .string z.ky, .int .i64 z.nw]
def flatZ (l : List Zn) : List Value := l.flatMap znV
structure Ch where
  kd : Int
  zo : Int
  ep : Int
  mv : Int
  ky : ByteArray
structure Mp where
  ver : Int
  nxt : Int
  zs : List Zn
/-- may a change be? -/
structure OkCh (c : Ch) : Prop where
  zo : 1 ≤ c.zo ∧ c.zo ≤ 1099511627776
  kd : 1 ≤ c.kd ∧ c.kd ≤ 5
  ky : (c.kd = 1 → 1 ≤ c.ky.size ∧ c.ky.size ≤ 16) ∧ (c.kd ≠ 1 → c.ky.size = 0)
  mv : (c.kd = 3 → 1 ≤ c.mv ∧ c.mv ≤ 1048576) ∧ (c.kd ≠ 3 → c.mv = 0)
  ep : (c.kd = 4 ∨ c.kd = 5 → 1 ≤ c.ep ∧ c.ep ≤ 1099511627776) ∧ (c.kd ≠ 4 → c.kd ≠ 5 → c.ep = 0)
def pendN (k : Int) (l : List Zn) : Nat := (l.filter fun z => decide (z.pd = k)).length
def topN : Int := 1099511627776
/-- nothing is under way with it any more -/
def settled (z : Zn) (e : Int) : Zn := ⟨z.id, z.fr, z.tt, z.ow, e, 0, 0, ⟨#[]⟩, 0⟩
/-- what a change does to the zone at a place -/
inductive Deed (hosts : List Int) (m : Mp) (c : Ch) (i : Nat) (h : i < m.zs.length) : Mp → Prop
  | split (k : c.kd = 1) (p : m.zs[i].pd = 0) (q : cutB m.zs[i].fr m.zs[i].tt c.ky = true) (n : (m.zs.length : Int) + pendN 1 m.zs < 16) (x : m.nxt < topN) :
      Deed hosts m c i h ⟨m.ver, m.nxt + 1, m.zs.set i { m.zs[i] with pd := 1, ky := c.ky, nw := m.nxt }⟩
  | merge (k : c.kd = 2) (h2 : i + 1 < m.zs.length) (p : m.zs[i].pd = 0) (q : m.zs[i + 1].pd = 0) (o : m.zs[i].ow = m.zs[i + 1].ow) :
      Deed hosts m c i h ⟨m.ver, m.nxt, (m.zs.set i { m.zs[i] with pd := 2, nw := m.zs[i + 1].id }).set (i + 1) { m.zs[i + 1] with pd := 2, nw := m.zs[i].id }⟩
  | move (k : c.kd = 3) (p : m.zs[i].pd = 0) (q : c.mv ∈ hosts) (o : c.mv ≠ m.zs[i].ow) (n : (pendN 3 m.zs : Int) < 2) :
      Deed hosts m c i h ⟨m.ver, m.nxt, m.zs.set i { m.zs[i] with pd := 3, mv := c.mv }⟩
  | splitDone (k : c.kd = 4) (p : m.zs[i].pd = 1) (e : m.zs[i].ep = c.ep) (q : cutB m.zs[i].fr m.zs[i].tt m.zs[i].ky = true) (x : m.zs[i].ep < topN) :
      Deed hosts m c i h ⟨m.ver, m.nxt, m.zs.take i ++ settled { m.zs[i] with tt := m.zs[i].ky } (m.zs[i].ep + 1) :: ⟨m.zs[i].nw, m.zs[i].ky, m.zs[i].tt, m.zs[i].ow, m.zs[i].ep + 1, 0, 0, ⟨#[]⟩, 0⟩ :: m.zs.drop (i + 1)⟩
  | mergeDone (k : c.kd = 4) (p : m.zs[i].pd = 2) (e : m.zs[i].ep = c.ep) (h2 : i + 1 < m.zs.length) (o : m.zs[i + 1].id = m.zs[i].nw) (q : joinB m.zs[i].fr m.zs[i].tt m.zs[i + 1].fr m.zs[i + 1].tt = true) (x : max m.zs[i].ep m.zs[i + 1].ep < topN) :
      Deed hosts m c i h ⟨m.ver, m.nxt, m.zs.take i ++ settled { m.zs[i] with tt := m.zs[i + 1].tt } (max m.zs[i].ep m.zs[i + 1].ep + 1) :: m.zs.drop (i + 2)⟩
  | moveDone (k : c.kd = 4) (p : m.zs[i].pd ≠ 0) (p1 : m.zs[i].pd ≠ 1) (p2 : m.zs[i].pd ≠ 2) (e : m.zs[i].ep = c.ep) (x : m.zs[i].ep < topN) :
      Deed hosts m c i h ⟨m.ver, m.nxt, m.zs.set i (settled { m.zs[i] with ow := m.zs[i].mv } (m.zs[i].ep + 1))⟩
  | abort (k : c.kd = 5) (p : m.zs[i].pd = 3) (e : m.zs[i].ep = c.ep) (x : m.zs[i].ep < topN) :
      Deed hosts m c i h ⟨m.ver, m.nxt, m.zs.set i (settled m.zs[i] (m.zs[i].ep + 1))⟩
/-- a change applies -/
structure Applies (hosts : List Int) (m : Mp) (c : Ch) (m' : Mp) : Prop where
  ok : OkCh c
  ver : m.ver < topN
  deed : ∃ (i : Nat) (h : i < m.zs.length), m.zs[i].id = c.zo ∧ (∀ j (hj : j < m.zs.length), j < i → m.zs[j].id ≠ c.zo) ∧ ∃ m1, Deed hosts m c i h m1 ∧ m' = ⟨m1.ver + 1, m1.nxt, m1.zs⟩
/-- the IDs of zones, and those that are kept for the splits that are under way -/
def idsZ (z : Zn) : List Int := z.id :: if z.pd = 1 then [z.nw] else []
def idsA (l : List Zn) : List Int := l.flatMap idsZ
structure InvZ (m : Mp) : Prop where
  nodup : (idsA m.zs).Nodup
  low : ∀ a ∈ idsA m.zs, a < m.nxt
theorem idsA_cons (a : Zn) (r : List Zn) : idsA (a :: r) = idsZ a ++ idsA r := rfl
theorem idsA_app (l r : List Zn) : idsA (l ++ r) = idsA l ++ idsA r := by simp [idsA]
theorem id_mem {z : Zn} {l : List Zn} (h : z ∈ l) : z.id ∈ idsA l := List.mem_flatMap.2 ⟨z, h, by simp [idsZ]⟩
theorem nw_mem {z : Zn} {l : List Zn} (h : z ∈ l) (hp : z.pd = 1) : z.nw ∈ idsA l := List.mem_flatMap.2 ⟨z, h, by simp [idsZ, hp]⟩
theorem idsA_new : ∀ {l : List Zn}, (idsA l).Nodup → ∀ {z y : Zn}, z ∈ l → z.pd = 1 → y ∈ l → y.id ≠ z.nw
  | [], _, _, _, hx, _, _ => by cases hx
  | a :: r, h, z, y, hz, hp, hy => by
    rw [idsA_cons, List.nodup_append] at h
    obtain ⟨h1, h2, h3⟩ := h
    rcases List.mem_cons.1 hz with e1 | hz2
    · have hn : z.nw ∈ idsZ a := by rw [← e1]; simp [idsZ, hp]
      rcases List.mem_cons.1 hy with e2 | hy2
      · intro e
        unfold idsZ at h1
        rw [← e1, if_pos hp, e1, ← e2, e] at h1
        rw [show y = z from e2.trans e1.symm] at h1
        simp at h1
      · exact fun e => h3 _ hn _ (id_mem hy2) e.symm
    · rcases List.mem_cons.1 hy with e2 | hy2
      · rw [e2]; exact h3 _ (by simp [idsZ]) _ (nw_mem hz2 hp)
      · exact idsA_new h2 hz2 hp hy2
theorem set_td {l : List Zn} {i : Nat} (h : i < l.length) (a : Zn) : l.set i a = l.take i ++ a :: l.drop (i + 1) := List.set_eq_take_append_cons_drop ▸ by simp [h]
theorem split_td {l : List Zn} {i : Nat} (h : i < l.length) : l = l.take i ++ l[i] :: l.drop (i + 1) := by rw [← List.drop_eq_getElem_cons h, List.take_append_drop]
theorem InvZ.begin {v : Int} (z : Zn) (hz : z.id = 1) (hp : z.pd = 0) : InvZ ⟨v, 2, [z]⟩ := by
  have e : idsA [z] = [1] := by simp [idsA, idsZ, hz, hp]
  exact ⟨by show (idsA [z]).Nodup; rw [e]; simp, fun a ha => by change a ∈ idsA [z] at ha; rw [e] at ha; simp at ha; subst ha; show (1 : Int) < 2; omega⟩
/-- of one zone, ahead of a change and behind it: its Epoch -/
def EpOk (x y : Zn) : Prop := x.ep ≤ y.ep ∧ (y.ow ≠ x.ow → x.ep < y.ep) ∧ ((y.fr ≠ x.fr ∨ y.tt ≠ x.tt) → x.ep < y.ep)
theorem EpOk.refl (x : Zn) : EpOk x x := ⟨Int.le_refl _, fun h => absurd rfl h, fun h => by rcases h with h | h <;> exact absurd rfl h⟩
theorem mem_set' {l : List Zn} {i : Nat} {a y : Zn} (h : y ∈ l.set i a) : y = a ∨ y ∈ l := (List.mem_or_eq_of_mem_set h).symm
end Go.Proofs.Ytbohpjinkdffhaa
namespace Go.Proofs.Ytbohpjinkdffhaa
open Go.RowKit
set_option linter.unusedVariables false
set_option linter.unusedSimpArgs false
def znA (z : Zn) : Value := .agg #[.int .i64 z.id, .string z.fr, .string z.tt, .int .i64 z.ow, .int .i64 z.ep, .int .i64 z.pd, .int .i64 z.mv, .string z.ky, .int .i64 z.nw]
theorem flatZ_app (a b : List Zn) : flatZ (a ++ b) = flatZ a ++ flatZ b := by simp [flatZ]
theorem flatZ_at : ∀ (l : List Zn) (j : Nat) (h : j < l.length), (flatZ l)[j * 9]? = some (.int .i64 l[j].id) ∧ (flatZ l)[j * 9 + 1]? = some (.string l[j].fr) ∧ (flatZ l)[j * 9 + 2]? = some (.string l[j].tt) ∧ (flatZ l)[j * 9 + 3]? = some (.int .i64 l[j].ow) ∧ (flatZ l)[j * 9 + 4]? = some (.int .i64 l[j].ep) ∧ (flatZ l)[j * 9 + 5]? = some (.int .i64 l[j].pd) ∧ (flatZ l)[j * 9 + 6]? = some (.int .i64 l[j].mv) ∧ (flatZ l)[j * 9 + 7]? = some (.string l[j].ky) ∧ (flatZ l)[j * 9 + 8]? = some (.int .i64 l[j].nw)
  | [], j, h => by cases h
  | a :: r, 0, h => by simp [flatZ, znV]
  | a :: r, j + 1, h => by
    have := flatZ_at r j (by simpa using h)
    have e : (j + 1) * 9 = j * 9 + 9 := by omega
    simp only [flatZ, List.flatMap_cons, znV, List.getElem_cons_succ] at this ⊢
    rw [e]
    exact this
theorem flatZ_one (l : List Zn) : ∀ u ∈ flatZ l, u.oneCell' = true := by
  intro u hu
  obtain ⟨z, _, hz⟩ := List.mem_flatMap.1 hu
  simp only [znV, List.mem_cons, List.not_mem_nil, or_false] at hz
  rcases hz with rfl | rfl | rfl | rfl | rfl | rfl | rfl | rfl | rfl <;> rfl
theorem znV_one (z : Zn) : ∀ u ∈ znV z, u.oneCell' = true := by
  intro u hz
  simp only [znV, List.mem_cons, List.not_mem_nil, or_false] at hz
  rcases hz with rfl | rfl | rfl | rfl | rfl | rfl | rfl | rfl | rfl <;> rfl
theorem flatZ_take (l : List Zn) (n : Nat) : flatZ (l.take n) = (flatZ l).take (n * 9) := by
  induction l generalizing n with
  | nil => simp [flatZ]
  | cons a r ih =>
    cases n with
    | zero => simp [flatZ]
    | succ n =>
      have e : (n + 1) * 9 = n * 9 + 9 := by omega
      have h1 : flatZ ((a :: r).take (n + 1)) = znV a ++ flatZ (r.take n) := by simp [flatZ]
      have h2 : flatZ (a :: r) = znV a ++ flatZ r := rfl
      rw [h1, h2, ih, e]
      simp [znV]
theorem flatZ_drop (l : List Zn) (n : Nat) : flatZ (l.drop n) = (flatZ l).drop (n * 9) := by
  induction l generalizing n with
  | nil => simp [flatZ]
  | cons a r ih =>
    cases n with
    | zero => simp [flatZ]
    | succ n =>
      have e : (n + 1) * 9 = n * 9 + 9 := by omega
      have h2 : flatZ (a :: r) = znV a ++ flatZ r := rfl
      rw [List.drop_succ_cons, h2, ih, e]
      simp [znV]
theorem drWithin (n a b : Int) (w : World) : Calls Try.prog 66 #[.int .i64 n, .int .i64 a, .int .i64 b] w fun e w' => e = .returned (.bool (decide (a ≤ n ∧ n ≤ b))) ∧ w' = w := by
  by_cases h1 : a ≤ n
  · by_cases h2 : n ≤ b
    · go_enter Try.func66, Try.ntmps66
      go_wp2_with fail
      go_ret
      exact ⟨ret_bool (by first | (simp [*]; done) | (simp [*]; omega) | (simp [*]; intro h; omega)), rfl⟩
    · go_enter Try.func66, Try.ntmps66
      go_wp2_with fail
      go_ret
      exact ⟨ret_bool (by first | (simp [*]; done) | (simp [*]; omega) | (simp [*]; intro h; omega)), rfl⟩
  · go_enter Try.func66, Try.ntmps66
    go_wp2_with fail
    go_ret
    exact ⟨ret_bool (by first | (simp [*]; done) | (simp [*]; omega) | (simp [*]; intro h; omega)), rfl⟩
end Go.Proofs.Ytbohpjinkdffhaa
