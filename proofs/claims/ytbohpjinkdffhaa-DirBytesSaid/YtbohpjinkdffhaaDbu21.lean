/- The directory's laws: changes as an argument; heavy; maps. The directory: what stays true of it; known. -/
import Derived.Test.YtbohpjinkdffhaaProg
import Derived.WalkKit
import Derived.WalkSpells
import Derived.WalkLawsBesides
import Derived.Deep.QuietTactic
import Derived.BigQuiet
import Derived.RegionTactic
import Derived.BigRegion
import Derived.Outline
import Derived.LoopTactic
import Derived.Lib.Hide
import Derived.Deep.RegionHeld3
import GoSem.Op.String
import Derived.Lib.Strings
import Derived.Laws.AppendOwnNone
import Derived.Deep.AppendLies
import Derived.Maps.AppendAt
import Derived.Laws.Rows
import Derived.Deep.Cut
import Derived.StillTailTactics
import Derived.Laws.IdiomCopy
import Derived.Lib.AppendZerosOnto
import Derived.Lib.Overlaps
import Derived.Lib.ReflectliteSwap
import Derived.Deep.RegionLaw
import Derived.Deep.DeepCutAuto
import Derived.Laws.EntriesVeiled
import Derived.Lib.SliceRun
import Derived.Test.YtbohpjinkdffhaaDbu0
import Derived.Test.YtbohpjinkdffhaaDbu3
import Derived.Test.YtbohpjinkdffhaaDbu6
import Derived.Test.YtbohpjinkdffhaaDbu7
import Derived.Test.YtbohpjinkdffhaaDbu9
import Derived.Test.YtbohpjinkdffhaaDbu10
import Derived.Test.YtbohpjinkdffhaaDbu11
import Derived.Test.YtbohpjinkdffhaaDbu12
import Derived.Test.YtbohpjinkdffhaaDbu13
import Derived.Test.YtbohpjinkdffhaaDbu14
import Derived.Test.YtbohpjinkdffhaaDbu15
import Derived.Test.YtbohpjinkdffhaaDbu16
import Derived.Test.YtbohpjinkdffhaaDbu17
import Derived.Test.YtbohpjinkdffhaaDbu18
import Derived.Test.YtbohpjinkdffhaaDbu19
import Derived.Test.YtbohpjinkdffhaaDbu20
namespace Go.Proofs.Ytbohpjinkdffhaa
open Go.RowKit
set_option linter.unusedVariables false
set_option linter.unusedSimpArgs false
theorem znNeq (z : Zn) (w : World) : (binOp .neq 39 (.agg #[.int .i64 z.id, .string z.fr, .string z.tt, .int .i64 z.ow, .int .i64 z.ep, .int .i64 z.pd, .int .i64 z.mv, .string z.ky, .int .i64 z.nw]) (.agg #[.int .i64 z.id, .string z.fr, .string z.tt, .int .i64 z.ow, .int .i64 z.ep, .int .i64 z.pd, .int .i64 z.mv, .string z.ky, .int .i64 z.nw])).run Try.prog w = .ok (.bool false) w := by
  go_simp
set_option maxHeartbeats 8000000 in
set_option maxRecDepth 10000 in
/-- two maps that are one -/
theorem drMaps (ver nxt : Int) (l : List Zn) (B1 B2 : Nat) (v1 v2 : Value) (w : World) (h1 : w.ownsRow B1 39 9 v1 l.length (flatZ l)) (h2 : w.ownsRow B2 39 9 v2 l.length (flatZ l)) (hl : l.length ≤ 100000) :
    Calls Try.prog 27 #[.agg #[.int .i64 ver, .int .i64 nxt, v1], .agg #[.int .i64 ver, .int .i64 nxt, v2]] w fun e w' => e = .returned (.bool true) ∧ Below w.heap.size w w' := by
  have H1 := Lib.hid h1
  have H2 := Lib.hid h2
  obtain ⟨A1, c1, e1, _, _, _⟩ := own_slice h1
  obtain ⟨A2, c2, e2, _, _, _⟩ := own_slice h2
  subst e1 e2
  clear h1 h2
  go_enter Try.func27, Try.ntmps27
  go_wp2_with fail
  have hP : Whl ((w.alloc (.cells #[.int .i64 ver, .int .i64 nxt, .slice A1 l.length c1] 33)).alloc (.cells #[.int .i64 ver, .int .i64 nxt, .slice A2 l.length c2] 33)) w.heap.size 33 #[.int .i64 ver, .int .i64 nxt, .slice A1 l.length c1] := (Whl.new rfl).alloc _
  have hQ : Whl ((w.alloc (.cells #[.int .i64 ver, .int .i64 nxt, .slice A1 l.length c1] 33)).alloc (.cells #[.int .i64 ver, .int .i64 nxt, .slice A2 l.length c2] 33)) (w.heap.size + 1) 33 #[.int .i64 ver, .int .i64 nxt, .slice A2 l.length c2] := Whl.new (by simp)
  have hBV : Below w.heap.size w ((w.alloc (.cells #[.int .i64 ver, .int .i64 nxt, .slice A1 l.length c1] 33)).alloc (.cells #[.int .i64 ver, .int .i64 nxt, .slice A2 l.length c2] 33)) := ((Below.refl _ _).alloc (Nat.le_refl _) _).alloc (by simp) _
  have HP := Lib.hid hP
  have HQ := Lib.hid hQ
  have HBV := Lib.hid hBV
  clear hP hQ hBV
  generalize ((w.alloc (.cells #[.int .i64 ver, .int .i64 nxt, .slice A1 l.length c1] 33)).alloc (.cells #[.int .i64 ver, .int .i64 nxt, .slice A2 l.length c2] 33)) = V at *
  go_loopw [5] (fun iv wr => ∃ i : Nat, i ≤ l.length ∧ iv = .int .i64 i ∧ Below V.heap.size V wr) (fun iv _ => l.length - (intOf iv).toNat)
  case atStart => exact ⟨0, Nat.zero_le _, rfl, Below.refl _ _⟩
  case round =>
    obtain ⟨i, hil, rfl, hBw⟩ := hrel
    have HBW := Lib.hid hBw
    have HWW := Lib.hid (HBV.out.trans (hBw.mono HBV.out.size))
    have k1 := bkeep hBw (HP.out.cell 2) HP.out.low
    have k2 := bkeep hBw (HQ.out.cell 2) HQ.out.low
    have k1 : wr.cell? ⟨w.heap.size, 2, none⟩ = some (.slice A1 l.length c1) := k1
    have k2 : wr.cell? ⟨w.heap.size + 1, 2, none⟩ = some (.slice A2 l.length c2) := k2
    clear hBw
    by_cases hlt : i < l.length
    · have q3 : (i : Int) < (l.length : Int) := by omega
      have hr1 := row_belowZ H1.out HWW.out
      have hr2 := row_belowZ H2.out HWW.out
      obtain ⟨g1, d1, e5, _, hg1, _, _⟩ := own_form hr1 (by omega)
      injection e5 with e5 e6 e7
      subst e5 e7
      obtain ⟨g2, d2, e5, _, hg2, _, _⟩ := own_form hr2 (by omega)
      injection e5 with e5 e6 e7
      subst e5 e7
      obtain ⟨z, hz⟩ : ∃ z, z = l[i] := ⟨_, rfl⟩
      obtain ⟨a0, a1, a2, a3, a4, a5, a6, a7, a8⟩ := rowZ_at hr1 hlt
      obtain ⟨b0, b1, b2, b3, b4, b5, b6, b7, b8⟩ := rowZ_at hr2 hlt
      rw [← hz] at a0 a1 a2 a3 a4 a5 a6 a7 a8 b0 b1 b2 b3 b4 b5 b6 b7 b8
      have hne := znNeq z
      clear hr1 hr2 hz
      go_wp2_with fail
      go_quiet (fail)
      go_wp2_with fail
      exact ⟨⟨i + 1, hlt, by go_num, b_drewN HBW.out⟩, measZ hlt⟩
    · obtain rfl : l.length = i := by omega
      go_wp2_with fail
      go_ret
      exact ⟨rfl, HWW.out⟩
theorem Deed.det {hosts : List Int} {m m1 m2 : Mp} {c : Ch} {i : Nat} {h : i < m.zs.length} (h1 : Deed hosts m c i h m1) (h2 : Deed hosts m c i h m2) : m1 = m2 := by
  cases h1 <;> cases h2 <;> first | rfl | omega
theorem Applies.det {hosts : List Int} {m m1 m2 : Mp} {c : Ch} (h1 : Applies hosts m c m1) (h2 : Applies hosts m c m2) : m1 = m2 := by
  obtain ⟨i, hi, hid, hf, d1, hd1, rfl⟩ := h1.deed
  obtain ⟨j, hj, hjd, hjf, d2, hd2, rfl⟩ := h2.deed
  have e : i = j := by
    rcases Nat.lt_trichotomy i j with h | h | h
    · exact absurd hid (hjf i hi h)
    · exact h
    · exact absurd hjd (hf j hj h)
  subst e
  rw [hd1.det hd2]
end Go.Proofs.Ytbohpjinkdffhaa
namespace Go.Proofs.Ytbohpjinkdffhaa
open Go.RowKit
set_option linter.unusedVariables false
set_option linter.unusedSimpArgs false
theorem pendN_cons (k : Int) (a : Zn) (r : List Zn) : pendN k (a :: r) = (if a.pd = k then 1 else 0) + pendN k r := by
  unfold pendN
  rw [List.filter_cons]
  by_cases h : a.pd = k
  · simp [h]; omega
  · simp [h]
theorem pendN_app (k : Int) (l r : List Zn) : pendN k (l ++ r) = pendN k l + pendN k r := by
  unfold pendN
  rw [List.filter_append, List.length_append]
theorem pendN_td (k : Int) {l : List Zn} {i : Nat} (h : i < l.length) : pendN k l = pendN k (l.take i) + ((if l[i].pd = k then 1 else 0) + pendN k (l.drop (i + 1))) := by
  conv => lhs; rw [split_td h]
  rw [pendN_app, pendN_cons]
theorem pendN_set (k : Int) {l : List Zn} {i : Nat} (h : i < l.length) (a : Zn) : pendN k (l.set i a) = pendN k (l.take i) + ((if a.pd = k then 1 else 0) + pendN k (l.drop (i + 1))) := by
  rw [set_td h, pendN_app, pendN_cons]
/-- what stays true -/
structure OkN (m : Mp) : Prop where
  one : 1 ≤ m.zs.length
  sum : m.zs.length + pendN 1 m.zs ≤ 16
  mv : pendN 3 m.zs ≤ 2
  nxt : 0 ≤ m.nxt
  ver : 0 ≤ m.ver
  ep : ∀ z ∈ m.zs, 0 ≤ z.ep
theorem OkN.okm {m : Mp} (h : OkN m) : OkM m := ⟨by have := h.sum; omega, h.nxt, h.ver, h.ep⟩
theorem Deed.okn {hosts : List Int} {m m' : Mp} {c : Ch} {i : Nat} {h : i < m.zs.length} (hd : Deed hosts m c i h m') (ho : OkN m) : OkN m' := by
  have hs := ho.sum
  have hm := ho.mv
  have hn := ho.nxt
  have h1 := pendN_td 1 h
  have h3 := pendN_td 3 h
  have he := ho.ep m.zs[i] (List.getElem_mem h)
  have set_ep : ∀ (a : Zn), 0 ≤ a.ep → ∀ z ∈ m.zs.set i a, 0 ≤ z.ep := fun a ha z hz => by
    rcases mem_set' hz with rfl | hz
    · exact ha
    · exact ho.ep z hz
  cases hd with
  | split k p q n x =>
    refine ⟨by show 1 ≤ (m.zs.set i _).length; rw [List.length_set]; exact ho.one, ?_, ?_, by show 0 ≤ m.nxt + 1; omega, ho.ver, set_ep _ he⟩
    · show (m.zs.set i _).length + pendN 1 (m.zs.set i _) ≤ 16
      rw [List.length_set, pendN_set 1 h]
      rw [p] at h1
      simp at h1 ⊢
      omega
    · show pendN 3 (m.zs.set i _) ≤ 2
      rw [pendN_set 3 h]
      rw [p] at h3
      simp at h3 ⊢
      omega
  | merge k h2 p q o =>
    have e2 : (m.zs.set i { m.zs[i] with pd := 2, nw := m.zs[i + 1].id })[i + 1]'(by rw [List.length_set]; exact h2) = m.zs[i + 1] := List.getElem_set_ne (by omega) _
    have g1 := pendN_td 1 (l := m.zs.set i { m.zs[i] with pd := 2, nw := m.zs[i + 1].id }) (i := i + 1) (by rw [List.length_set]; exact h2)
    have g3 := pendN_td 3 (l := m.zs.set i { m.zs[i] with pd := 2, nw := m.zs[i + 1].id }) (i := i + 1) (by rw [List.length_set]; exact h2)
    rw [e2, pendN_set _ h] at g1 g3
    rw [p] at h1 h3
    rw [q] at g1 g3
    simp at h1 h3 g1 g3
    refine ⟨by show 1 ≤ ((m.zs.set i _).set (i + 1) _).length; rw [List.length_set, List.length_set]; exact ho.one, ?_, ?_, hn, ho.ver, ?_⟩
    · show ((m.zs.set i _).set (i + 1) _).length + pendN 1 ((m.zs.set i _).set (i + 1) _) ≤ 16
      rw [List.length_set, List.length_set, pendN_set 1 (by rw [List.length_set]; exact h2)]
      simp
      omega
    · show pendN 3 ((m.zs.set i _).set (i + 1) _) ≤ 2
      rw [pendN_set 3 (by rw [List.length_set]; exact h2)]
      simp
      omega
    · intro z hz
      rcases mem_set' hz with rfl | hz
      · exact ho.ep m.zs[i + 1] (List.getElem_mem h2)
      · exact set_ep { m.zs[i] with pd := 2, nw := m.zs[i + 1].id } he z hz
  | move k p q o n =>
    refine ⟨by show 1 ≤ (m.zs.set i _).length; rw [List.length_set]; exact ho.one, ?_, ?_, hn, ho.ver, set_ep _ he⟩
    · show (m.zs.set i _).length + pendN 1 (m.zs.set i _) ≤ 16
      rw [List.length_set, pendN_set 1 h]
      rw [p] at h1
      simp at h1 ⊢
      omega
    · show pendN 3 (m.zs.set i _) ≤ 2
      rw [pendN_set 3 h]
      rw [p] at h3
      simp at h3 ⊢
      omega
  | splitDone k p e q x =>
    have hl : (m.zs.take i).length = i := by rw [List.length_take]; omega
    have hl2 : (m.zs.drop (i + 1)).length = m.zs.length - (i + 1) := List.length_drop
    refine ⟨?_, ?_, ?_, hn, ho.ver, ?_⟩
    · show 1 ≤ (m.zs.take i ++ _ :: _ :: m.zs.drop (i + 1)).length
      rw [List.length_append, List.length_cons, List.length_cons]; omega
    · show (m.zs.take i ++ _ :: _ :: m.zs.drop (i + 1)).length + pendN 1 (m.zs.take i ++ _ :: _ :: m.zs.drop (i + 1)) ≤ 16
      rw [List.length_append, List.length_cons, List.length_cons, pendN_app, pendN_cons, pendN_cons]
      rw [p] at h1
      simp [settled] at h1 ⊢
      omega
    · show pendN 3 (m.zs.take i ++ _ :: _ :: m.zs.drop (i + 1)) ≤ 2
      rw [pendN_app, pendN_cons, pendN_cons]
      rw [p] at h3
      simp [settled] at h3 ⊢
      omega
    · intro z hz
      rcases List.mem_append.1 hz with hz | hz
      · exact ho.ep z (List.mem_of_mem_take hz)
      · rcases List.mem_cons.1 hz with rfl | hz
        · show 0 ≤ m.zs[i].ep + 1; omega
        · rcases List.mem_cons.1 hz with rfl | hz
          · show 0 ≤ m.zs[i].ep + 1; omega
          · exact ho.ep z (List.mem_of_mem_drop hz)
  | mergeDone k p e h2 o q x =>
    have hl : (m.zs.take i).length = i := by rw [List.length_take]; omega
    have hl2 : (m.zs.drop (i + 2)).length = m.zs.length - (i + 2) := List.length_drop
    have hdr : m.zs.drop (i + 1) = m.zs[i + 1] :: m.zs.drop (i + 2) := List.drop_eq_getElem_cons h2
    rw [hdr, pendN_cons] at h1 h3
    refine ⟨?_, ?_, ?_, hn, ho.ver, ?_⟩
    · show 1 ≤ (m.zs.take i ++ _ :: m.zs.drop (i + 2)).length
      rw [List.length_append, List.length_cons]; omega
    · show (m.zs.take i ++ _ :: m.zs.drop (i + 2)).length + pendN 1 (m.zs.take i ++ _ :: m.zs.drop (i + 2)) ≤ 16
      rw [List.length_append, List.length_cons, pendN_app, pendN_cons]
      simp [settled]
      omega
    · show pendN 3 (m.zs.take i ++ _ :: m.zs.drop (i + 2)) ≤ 2
      rw [pendN_app, pendN_cons]
      simp [settled]
      omega
    · intro z hz
      rcases List.mem_append.1 hz with hz | hz
      · exact ho.ep z (List.mem_of_mem_take hz)
      · rcases List.mem_cons.1 hz with rfl | hz
        · show 0 ≤ max m.zs[i].ep m.zs[i + 1].ep + 1; omega
        · exact ho.ep z (List.mem_of_mem_drop hz)
  | moveDone k p p1 p2 e x =>
    refine ⟨by show 1 ≤ (m.zs.set i _).length; rw [List.length_set]; exact ho.one, ?_, ?_, hn, ho.ver, set_ep _ (by show 0 ≤ m.zs[i].ep + 1; omega)⟩
    · show (m.zs.set i _).length + pendN 1 (m.zs.set i _) ≤ 16
      rw [List.length_set, pendN_set 1 h]
      simp [settled]
      omega
    · show pendN 3 (m.zs.set i _) ≤ 2
      rw [pendN_set 3 h]
      simp [settled]
      omega
  | abort k p e x =>
    refine ⟨by show 1 ≤ (m.zs.set i _).length; rw [List.length_set]; exact ho.one, ?_, ?_, hn, ho.ver, set_ep _ (by show 0 ≤ m.zs[i].ep + 1; omega)⟩
    · show (m.zs.set i _).length + pendN 1 (m.zs.set i _) ≤ 16
      rw [List.length_set, pendN_set 1 h]
      simp [settled]
      omega
    · show pendN 3 (m.zs.set i _) ≤ 2
      rw [pendN_set 3 h]
      simp [settled]
      omega
theorem Applies.okn {hosts : List Int} {m m' : Mp} {c : Ch} (h : Applies hosts m c m') (ho : OkN m) : OkN m' := by
  obtain ⟨i, hl, _, _, m1, hd, rfl⟩ := h.deed
  have := hd.okn ho
  exact ⟨this.one, this.sum, this.mv, this.nxt, by show 0 ≤ m1.ver + 1; have := this.ver; omega, this.ep⟩
theorem OkN.begin (l : List Int) : OkN (mp1 l) := ⟨by simp [mp1], by simp [mp1, pendN], by simp [mp1, pendN], by simp [mp1], by simp [mp1], by simp [mp1]⟩
theorem mp1_inv (l : List Int) : InvZ (mp1 l) := InvZ.begin _ rfl rfl
end Go.Proofs.Ytbohpjinkdffhaa
