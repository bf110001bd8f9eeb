/- The document's Decode, of any bytes. -/
import Derived.Test.YtbohpjinkdffhaaProg
import Derived.WalkKit
import Derived.WalkSpells
import Derived.WalkLawsBesides
import Derived.Deep.QuietTactic
import Derived.BigQuiet
import Derived.RegionTactic
import Derived.BigRegion
import Derived.Outline
import Derived.LoopTactic
import Derived.Lib.Hide
import Derived.Deep.RegionHeld3
import Derived.Laws.AppendOwnNone
import Derived.Deep.AppendLies
import Derived.Deep.Light
import Derived.Lib.VarintBits
import Derived.Deep.Heap
import Derived.IntWalk
import Derived.Maps.AppendAt
import Derived.Laws.Rows
import Derived.Deep.Onto
import Derived.Laws.BytesArg
import GoSem.Op.String
import Derived.Lib.Strings
import Derived.Deep.Cut
import Derived.StillTailTactics
import Derived.Laws.IdiomCopy
import Derived.Lib.AppendZerosOnto
import Derived.Lib.Overlaps
import Derived.Lib.ReflectliteSwap
import Derived.Deep.RegionLaw
import Derived.Deep.DeepCutAuto
import Derived.Laws.EntriesVeiled
import Derived.Lib.SliceRun
import Derived.Maps.Own
import Derived.Maps.RangeRun
import Derived.Carry
import Derived.Maps.Range
import Derived.Test.YtbohpjinkdffhaaDbu0
import Derived.Test.YtbohpjinkdffhaaDbu1
import Derived.Test.YtbohpjinkdffhaaDbu2
import Derived.Test.YtbohpjinkdffhaaDbu3
import Derived.Test.YtbohpjinkdffhaaDbu4
import Derived.Test.YtbohpjinkdffhaaDbu5
import Derived.Test.YtbohpjinkdffhaaDbu6
import Derived.Test.YtbohpjinkdffhaaDbu7
import Derived.Test.YtbohpjinkdffhaaDbu8
import Derived.Test.YtbohpjinkdffhaaDbu9
import Derived.Test.YtbohpjinkdffhaaDbu10
import Derived.Test.YtbohpjinkdffhaaDbu11
import Derived.Test.YtbohpjinkdffhaaDbu12
import Derived.Test.YtbohpjinkdffhaaDbu13
import Derived.Test.YtbohpjinkdffhaaDbu14
import Derived.Test.YtbohpjinkdffhaaDbu15
import Derived.Test.YtbohpjinkdffhaaDbu16
import Derived.Test.YtbohpjinkdffhaaDbu17
import Derived.Test.YtbohpjinkdffhaaDbu18
import Derived.Test.YtbohpjinkdffhaaDbu19
import Derived.Test.YtbohpjinkdffhaaDbu20
import Derived.Test.YtbohpjinkdffhaaDbu21
import Derived.Test.YtbohpjinkdffhaaDbu22
import Derived.Test.YtbohpjinkdffhaaDbu23
import Derived.Test.YtbohpjinkdffhaaDbu24
import Derived.Test.YtbohpjinkdffhaaDbu25
import Derived.Test.YtbohpjinkdffhaaDbu26
import Derived.Test.YtbohpjinkdffhaaDbu27
import Derived.Test.YtbohpjinkdffhaaDbu28
import Derived.Test.YtbohpjinkdffhaaDbu29
import Derived.Test.YtbohpjinkdffhaaDbu30
import Derived.Test.YtbohpjinkdffhaaDbu31
import Derived.Test.YtbohpjinkdffhaaDbu32
namespace Go.Proofs.Ytbohpjinkdffhaa
open Go.RowKit
set_option linter.unusedVariables false
set_option linter.unusedSimpArgs false
/-- as DS, without the Reader -/
structure DT (b G k : Nat) (s : Option (List Nat)) (ver nxt : Int) (w2 x : World) (u v : Value) : Prop where
  g : Whl x G 33 #[.int .i64 ver, .int .i64 nxt, u]
  own : x.ownsRow w2.heap.size 39 9 v k (flatZ (zL k s))
  tou : Touch (fun q => q = b ∨ q = G) w2 x
  bl : b < w2.heap.size
  gl : G < w2.heap.size
  ne : G ≠ b
theorem DS.dt {b G j k : Nat} {s : Option (List Nat)} {ver nxt : Int} {w2 x : World} {u v : Value} (h : DS b G j k s ver nxt w2 x u v) : DT b G k s ver nxt w2 x u v := ⟨h.g, h.own, h.tou, h.bl, h.gl, h.ne⟩
theorem DT.ds {b G j k : Nat} {s : Option (List Nat)} {ver nxt : Int} {w2 x : World} {u v : Value} (h : DT b G k s ver nxt w2 x u v) (hr : RS x b (zS j s)) : DS b G j k s ver nxt w2 x u v := ⟨hr, h.g, h.own, h.tou, h.bl, h.gl, h.ne⟩
theorem DT.tch {b G k : Nat} {s : Option (List Nat)} {ver nxt : Int} {w2 x x' : World} {u v : Value} (h : DT b G k s ver nxt w2 x u v) (ht : Tch b x x') : DT b G k s ver nxt w2 x' u v :=
  ⟨h.g.tch ht h.ne, ht.touch.own h.own (fun q hq e => by have := (h.own.lt q hq).1; have := h.bl; omega), h.tou.trans ht.touch (fun n hn e => .inl e), h.bl, h.gl, h.ne⟩
theorem DT.fresh {b G k : Nat} {s : Option (List Nat)} {ver nxt : Int} {w2 x x' : World} {u v : Value} (h : DT b G k s ver nxt w2 x u v) (hb : Below x.heap.size x x') : DT b G k s ver nxt w2 x' u v :=
  ⟨h.g.below hb h.g.low, row_below h.own hb, h.tou.trans (Touch.of_below hb) (fun n hn e => by have := h.tou.size; omega), h.bl, h.gl, h.ne⟩
/-- a store into a box that is newer -/
theorem DT.box {b G k g : Nat} {s : Option (List Nat)} {ver nxt : Int} {w2 x : World} {u v : Value} (h : DT b G k s ver nxt w2 x u v) (hg : w2.heap.size ≤ g) (hn : v.ownBlock ≠ some g) (i : Nat) (y : Value) : DT b G k s ver nxt w2 (x.setCell ⟨g, i, none⟩ y) u v :=
  ⟨h.g.far (by have := h.gl; simp; omega), ((Touch.refl (fun q => q = g) x).set (fun _ => rfl)).own h.own (fun q hq e => hn (by rw [hq, e])), h.tou.set (fun e => by simp at e; omega), h.bl, h.gl, h.ne⟩
theorem row_tch {w2 x x' : World} {b base e n : Nat} {v : Value} {ys : List Value} (h : x.ownsRow base e 1 v n ys) (ht : Tch b x x') (hb : b < base) : x'.ownsRow base e 1 v n ys := ht.touch.own h (fun q hq e => by have := (h.lt q hq).1; omega)
theorem rd_lt : ∀ (r : List Nat) (i acc n : Nat) (t : List Nat), rd i acc r = some (n, t) → t.length < r.length
  | [], i, acc, n, t, h => by simp [rd] at h
  | x :: r, i, acc, n, t, h => by
    unfold rd at h
    split at h
    · cases h
    · split at h
      · have := rd_lt r _ _ _ _ h
        simp; omega
      · split at h
        · cases h
        · injection h with h
          injection h with _ h
          subst h
          simp
theorem nx_lt {s : Option (List Nat)} {r : List Nat} (h : (nx s).2 = some r) : ∃ r0, s = some r0 ∧ r.length < r0.length := by
  cases s with
  | none => simp [nx] at h
  | some r0 =>
    refine ⟨r0, rfl, ?_⟩
    simp only [nx] at h
    cases e : rd 0 0 r0 with
    | none => rw [e] at h; simp at h
    | some p =>
      obtain ⟨n, t⟩ := p
      rw [e] at h
      injection h with h
      subst h
      exact rd_lt _ _ _ _ _ e
theorem nb_some {s : Option (List Nat)} {r : List Nat} (h : (nb s).2 = some r) : ∃ r0, s = some r0 ∧ r.length ≤ r0.length := by
  cases s with
  | none => simp [nb, nx] at h
  | some r0 =>
    refine ⟨r0, rfl, ?_⟩
    have h1 := (nb_len (some r0)).1
    rw [h] at h1
    simpa using h1
theorem znE_lt {s : Option (List Nat)} {r : List Nat} (h : znE s = some r) : ∃ r0, s = some r0 ∧ r.length + 2 ≤ r0.length := by
  obtain ⟨r1, h1, l1⟩ := nx_lt (s := (nb (zn2 (zn1 s))).2) h
  obtain ⟨r2, h2, l2⟩ := nb_some h1
  obtain ⟨r3, h3, l3⟩ := nx_lt (s := (nx (nx (nx (zn1 s)).2).2).2) h2
  obtain ⟨r4, h4, l4⟩ := nx_lt h3
  obtain ⟨r5, h5, l5⟩ := nx_lt h4
  obtain ⟨r6, h6, l6⟩ := nx_lt h5
  obtain ⟨r7, h7, l7⟩ := nb_some (s := (nb (nx s).2).2) h6
  obtain ⟨r8, h8, l8⟩ := nb_some h7
  obtain ⟨r9, h9, l9⟩ := nx_lt h8
  exact ⟨r9, h9, by omega⟩
theorem zS_lt : ∀ (k : Nat) {s : Option (List Nat)} {r : List Nat}, zS k s = some r → ∃ r0, s = some r0 ∧ r.length + 2 * k ≤ r0.length
  | 0, s, r, h => ⟨r, h, by omega⟩
  | k + 1, s, r, h => by
    obtain ⟨r1, h1, l1⟩ := znE_lt (s := zS k s) h
    obtain ⟨r0, h0, l0⟩ := zS_lt k h1
    exact ⟨r0, h0, by omega⟩
theorem mS_le {xs : List Nat} {r : List Nat} (h : mS (some xs) = some r) : r.length ≤ xs.length := by
  obtain ⟨r1, h1, l1⟩ := nx_lt h
  obtain ⟨r2, h2, l2⟩ := nx_lt h1
  obtain ⟨r3, h3, l3⟩ := nx_lt h2
  injection h3 with h3
  subst h3
  omega
set_option maxHeartbeats 8000000 in
set_option maxRecDepth 10000 in
theorem rdDecode (A : Option Addr) (c : Nat) (xs : List Nat) (w : World) (hn : xs.length ≤ 1900) (hcap : xs.length ≤ c) (hcm : c ≤ maxLen) (h256 : ∀ x ∈ xs, x < 256) (hx : Cells w w.heap.size A xs.length c 1 (flatU xs)) :
    Calls Try.prog 22 #[.slice A xs.length c] w fun e w' => MapAns (some xs) w.heap.size e w' ∧ Below w.heap.size w w' := by
  obtain ⟨i0, hi0, hz0, hz1, hz2⟩ := info_parts Try.infoZone
  have hw2 : Below w.heap.size w ((w.alloc (.cells #[.int .i64 0, .int .i64 0, .slice none 0 0] 33)).alloc (.cells #[.slice A xs.length c, .bool false] 98)) := ((Below.refl _ _).alloc (Nat.le_refl _) _).alloc (by simp) _
  have HX := Lib.hid (cells_keep hx hw2 (by omega : w.heap.size ≤ w.heap.size + 1))
  have HS0 : Hid (RS ((w.alloc (.cells #[.int .i64 0, .int .i64 0, .slice none 0 0] 33)).alloc (.cells #[.slice A xs.length c, .bool false] 98)) (w.heap.size + 1) (some xs)) :=
    Lib.hid (RS.of ⟨⟨A, c, by ((repeat (first | (with_reducible assumption) | ((with_reducible refine c_set_same ?_); ((repeat (first | (with_reducible exact h_of (by assumption)) | (with_reducible assumption) | (with_reducible refine h_set ?_) | ((with_reducible refine h_alloc ?_ ?_); · (first | omega | (simp; done) | (simp; omega))) | ((with_reducible refine h_new ?_ ?_) <;> (first | omega | (simp; done) | (simp; omega))) | (with_reducible refine h_drew ?_) | (with_reducible refine h_drewN ?_) | ((with_reducible refine h_keep (by assumption) ?_ ?_); · (first | omega | (simp; done) | (simp; omega))))); done)) | ((with_reducible refine c_set_other ?_ ?_); · (first | omega | (simp; done) | (simp; omega))) | ((with_reducible refine c_alloc ?_ ?_); · (first | omega | (simp; done) | (simp; omega))) | ((with_reducible refine c_new ?_ ?_) <;> (first | omega | (simp; done) | (simp; omega))) | (with_reducible refine c_drew ?_) | (with_reducible refine c_drewN ?_) | ((with_reducible refine c_keep (by assumption) ?_ ?_); · (first | omega | (simp; done) | (simp; omega))))); done), hcap, hcm, HX.out⟩, by ((repeat (first | (with_reducible assumption) | ((with_reducible refine c_set_same ?_); ((repeat (first | (with_reducible exact h_of (by assumption)) | (with_reducible assumption) | (with_reducible refine h_set ?_) | ((with_reducible refine h_alloc ?_ ?_); · (first | omega | (simp; done) | (simp; omega))) | ((with_reducible refine h_new ?_ ?_) <;> (first | omega | (simp; done) | (simp; omega))) | (with_reducible refine h_drew ?_) | (with_reducible refine h_drewN ?_) | ((with_reducible refine h_keep (by assumption) ?_ ?_); · (first | omega | (simp; done) | (simp; omega))))); done)) | ((with_reducible refine c_set_other ?_ ?_); · (first | omega | (simp; done) | (simp; omega))) | ((with_reducible refine c_alloc ?_ ?_); · (first | omega | (simp; done) | (simp; omega))) | ((with_reducible refine c_new ?_ ?_) <;> (first | omega | (simp; done) | (simp; omega))) | (with_reducible refine c_drew ?_) | (with_reducible refine c_drewN ?_) | ((with_reducible refine c_keep (by assumption) ?_ ?_); · (first | omega | (simp; done) | (simp; omega))))); done), by intro j; ((repeat (first | (with_reducible assumption) | (with_reducible refine f_set ?_) | ((with_reducible refine f_alloc ?_ ?_); · (first | omega | (simp; done) | (simp; omega))) | ((with_reducible refine f_new ?_); (first | omega | (simp; done) | (simp; omega)); done) | (with_reducible refine f_drew ?_) | (with_reducible refine f_drewN ?_) | ((with_reducible refine f_keep (by assumption) ?_ ?_); · (first | omega | (simp; done) | (simp; omega))))); done), by simp⟩ (by omega) h256)
  have R : Whl ((w.alloc (.cells #[.int .i64 0, .int .i64 0, .slice none 0 0] 33)).alloc (.cells #[.slice A xs.length c, .bool false] 98)) w.heap.size 33 #[.int .i64 0, .int .i64 0, .slice none 0 0] := Whl.alloc (Whl.new rfl) _
  have B := Lib.hid hw2
  clear hx h256 hw2 HX
  go_enter Try.func22, Try.ntmps22
  go_wp2_with fail
  refine (rfNxT (w.heap.size + 1) (some xs) _ HS0.out).mono ?_
  rintro e v0 ⟨rfl, hrs, ht⟩
  have hl0 := ht.size
  (try simp at hl0)
  replace R := R.tch ht (by omega)
  have B0 : Below w.heap.size w v0 := B.out.trans (ht.below (by omega) (by simp; omega))
  obtain ⟨ver, hn0⟩ : ∃ z : Int, z = ((nx (some xs)).1 : Int) := ⟨_, rfl⟩
  rw [← hn0]
  have HV := Lib.hid hn0
  have HS1 := Lib.hid hrs
  clear hn0 hrs ht HS0 B
  go_wp2_with fail
  refine (rfNxT (w.heap.size + 1) (nx (some xs)).2 _ HS1.out).mono ?_
  rintro e v1 ⟨rfl, hrs, ht⟩
  have hl1 := ht.size
  (try simp at hl1)
  replace R := R.tch ht (by omega)
  have B1 : Below w.heap.size w v1 := B0.trans (ht.below (by omega) (by omega))
  obtain ⟨nxt, hn1⟩ : ∃ z : Int, z = ((nx (nx (some xs)).2).1 : Int) := ⟨_, rfl⟩
  rw [← hn1]
  have HNX := Lib.hid hn1
  have HS2 := Lib.hid hrs
  clear hn1 hrs ht HS1 B0
  go_wp2_with fail
  have X : Whl (v1.alloc (.cells #[.int .i64 ver, .int .i64 nxt, .slice none 0 0] 33)) v1.heap.size 33 #[.int .i64 ver, .int .i64 nxt, .slice none 0 0] := Whl.new rfl
  replace R := R.alloc (.cells #[.int .i64 ver, .int .i64 nxt, .slice none 0 0] 33)
  have HS4 := Lib.hid (RS.alloc HS2.out (.cells #[.int .i64 ver, .int .i64 nxt, .slice none 0 0] 33))
  have B3 : Below w.heap.size w (v1.alloc (.cells #[.int .i64 ver, .int .i64 nxt, .slice none 0 0] 33)) := B1.alloc (by omega) _
  have hz3 : v1.heap.size < (v1.alloc (.cells #[.int .i64 ver, .int .i64 nxt, .slice none 0 0] 33)).heap.size := by simp
  have hgw : w.heap.size + 1 < v1.heap.size := by omega
  generalize (v1.alloc (.cells #[.int .i64 ver, .int .i64 nxt, .slice none 0 0] 33)) = U at *
  generalize v1.heap.size = G at *
  clear HS2 B1
  refine (rfNxT (w.heap.size + 1) (nx (nx (some xs)).2).2 _ HS4.out).mono ?_
  rintro e w2 ⟨rfl, hrs, ht⟩
  have hl2 := ht.size
  replace R := R.tch ht (by omega)
  replace X := X.tch ht (by omega)
  have BB0 : Below w.heap.size w w2 := B3.trans (ht.below (by omega) (by omega))
  obtain ⟨n, hn2⟩ : ∃ z : Nat, z = mN (some xs) := ⟨_, rfl⟩
  obtain ⟨s3, hs3⟩ : ∃ z, z = mS (some xs) := ⟨_, rfl⟩
  have hrs3 : RS w2 (w.heap.size + 1) s3 := by rw [hs3]; exact hrs
  have en : ((nx (nx (nx (some xs)).2).2).1 : Int) = (n : Int) := by rw [hn2]; rfl
  rw [en]
  have hnle : n ≤ 4611686018427387904 := by rw [hn2]; exact nx_le _
  have HS3 := Lib.hid hs3
  have HN2 := Lib.hid hn2
  have HRS := Lib.hid hrs3
  have hbl2 := hrs3.low
  have hGl := X.low
  have HXX := Lib.hid X
  have HR := Lib.hid R
  have HB0 := Lib.hid BB0
  clear hrs hrs3 ht hn2 hs3 X R BB0 HS4 B3 en
  go_wp2_with fail
  go_loopw [7] (fun kv wr => ∃ (k : Nat) (v : Value), k ≤ n ∧ kv = .int .i64 k ∧ DS (w.heap.size + 1) G k k s3 ver nxt w2 wr v v) (fun kv _ => n - (intOf kv).toNat)
  case atStart => exact ⟨0, .slice none 0 0, Nat.zero_le _, rfl, ⟨HRS.out, HXX.out, World.ownsRow_nil _ _ _ _, Touch.refl _ _, hbl2, hGl, by omega⟩⟩
  case round =>
    obtain ⟨k, v, hkl, rfl, D⟩ := hrel
    have hw2r := D.tou.size
    have hfl := D.rs.rd.flag
    obtain ⟨s, hsk⟩ : ∃ s, s = zS k s3 := ⟨_, rfl⟩
    rw [← hsk] at hfl
    by_cases hkt : k < n
    · have q5 : (k : Int) < (n : Int) := by omega
      cases s with
      | none =>
        have hnone : zS (mN (some xs)) (mS (some xs)) = none := by rw [← HN2.out, ← HS3.out]; exact zS_none hsk.symm n (by omega)
        have hno : mOk (some xs) = false := by unfold mOk; rw [hnone]; rfl
        have R := HR.out.tou D.tou (by omega)
        have BB : Below w.heap.size w wr := HB0.out.trans (D.tou.below (by omega) (by omega))
        have hrn : RS wr (w.heap.size + 1) none := by have := D.rs; rw [← hsk] at this; exact this
        have hfl2 : wr.cell? ⟨w.heap.size + 1, 1, none⟩ = some (.bool true) := hfl
        have HRN := Lib.hid hrn
        clear D hfl hrn
        go_wp2_with fail
        refine (rfAll _ _ _ HRN.out).mono ?_
        rintro e w5 ⟨rfl, rfl⟩
        rw [show allOf none = false from rfl]
        clear hfl2
        have r0 := R.cell 0
        have r1 := R.cell 1
        have r2 := R.cell 2
        simp only [List.getElem?_toArray, List.getElem?_cons_succ, List.getElem?_cons_zero] at r0 r1 r2
        have f0 := R.free 0
        have f1 := R.free 1
        have f2 := R.free 2
        have HRR := Lib.hid R
        clear R
        go_wp2_with fail
        have R := HRR.out
        clear r0 f0 r1 f1 r2 f2
        have RF0 : Whl (wr.setCell ⟨w.heap.size, 0, none⟩ (.int .i64 0)) w.heap.size 33 #[.int .i64 0, .int .i64 0, .slice none 0 0] := Whl.set R 0 (.int .i64 0)
        have BF0 : Below w.heap.size w (wr.setCell ⟨w.heap.size, 0, none⟩ (.int .i64 0)) := BB.setCell (Nat.le_refl _) _
        have TF0 : Touch (fun q => q = w.heap.size) wr (wr.setCell ⟨w.heap.size, 0, none⟩ (.int .i64 0)) := (Touch.refl (fun q => q = w.heap.size) wr).set (fun _ => rfl)
        have RF1 : Whl ((wr.setCell ⟨w.heap.size, 0, none⟩ (.int .i64 0)).setCell ⟨w.heap.size, 1, none⟩ (.int .i64 0)) w.heap.size 33 #[.int .i64 0, .int .i64 0, .slice none 0 0] := Whl.set RF0 1 (.int .i64 0)
        have BF1 : Below w.heap.size w ((wr.setCell ⟨w.heap.size, 0, none⟩ (.int .i64 0)).setCell ⟨w.heap.size, 1, none⟩ (.int .i64 0)) := BF0.setCell (Nat.le_refl _) _
        have TF1 : Touch (fun q => q = w.heap.size) wr ((wr.setCell ⟨w.heap.size, 0, none⟩ (.int .i64 0)).setCell ⟨w.heap.size, 1, none⟩ (.int .i64 0)) := TF0.set (fun _ => rfl)
        have RF2 : Whl (((wr.setCell ⟨w.heap.size, 0, none⟩ (.int .i64 0)).setCell ⟨w.heap.size, 1, none⟩ (.int .i64 0)).setCell ⟨w.heap.size, 2, none⟩ (.slice none 0 0)) w.heap.size 33 #[.int .i64 0, .int .i64 0, .slice none 0 0] := Whl.set RF1 2 (.slice none 0 0)
        have BF2 : Below w.heap.size w (((wr.setCell ⟨w.heap.size, 0, none⟩ (.int .i64 0)).setCell ⟨w.heap.size, 1, none⟩ (.int .i64 0)).setCell ⟨w.heap.size, 2, none⟩ (.slice none 0 0)) := BF1.setCell (Nat.le_refl _) _
        have TF2 : Touch (fun q => q = w.heap.size) wr (((wr.setCell ⟨w.heap.size, 0, none⟩ (.int .i64 0)).setCell ⟨w.heap.size, 1, none⟩ (.int .i64 0)).setCell ⟨w.heap.size, 2, none⟩ (.slice none 0 0)) := TF1.set (fun _ => rfl)
        have hTF := TF2
        clear RF0 RF1 BF0 BF1 TF0 TF1 TF2 R HRR
        generalize (((wr.setCell ⟨w.heap.size, 0, none⟩ (.int .i64 0)).setCell ⟨w.heap.size, 1, none⟩ (.int .i64 0)).setCell ⟨w.heap.size, 2, none⟩ (.slice none 0 0)) = Y at *
        have q0 := RF2.cell 0
        have q1 := RF2.cell 1
        have q2 := RF2.cell 2
        simp only [List.getElem?_toArray, List.getElem?_cons_succ, List.getElem?_cons_zero] at q0 q1 q2
        refine bodyPost_ret (v := .tuple #[.agg #[.int .i64 0, .int .i64 0, .slice none 0 0], .int .i64 3]) (by simp [results, Try.results22, go_sem, ↓IntWalk.iteOmega, *]) rfl ⟨⟨fun h => absurd h (by rw [hno]; decide), fun _ => rfl⟩, BF2⟩
      | some r0 =>
      obtain ⟨s, hs0⟩ : ∃ s, s = some r0 := ⟨_, rfl⟩
      have hfl2 : wr.cell? ⟨w.heap.size + 1, 1, none⟩ = some (.bool false) := hfl
      have hk950 : k ≤ 950 := by
        obtain ⟨r1, h1, l1⟩ := zS_lt k hsk.symm
        have h2 := mS_le (HS3.out.symm.trans h1)
        omega
      have hsk2 : zS k s3 = s := by rw [hs0, ← hsk]
      have HS := Lib.hid (show RS wr (w.heap.size + 1) s by have := D.rs; rw [hsk2] at this; exact this)
      have HSK := Lib.hid hsk2
      have hwk : IntKind.i64.wrap ((k : Int) + 1) = (k : Int) + 1 := by rw [IntKind.wrap_i64]; omega
      obtain ⟨Av, cv9, hv9, _, _, _⟩ := own_slice D.own
      obtain ⟨nv, hnv⟩ : ∃ x, x = k := ⟨_, rfl⟩
      rw [← hnv] at hv9
      subst hv9
      have D := D.dt
      clear hfl hsk hs0 hsk2 hnv
      go_wp2_with fail
      clear hfl2
      refine (rfNxT (w.heap.size + 1) s _ HS.out).mono ?_
      rintro e x1 ⟨rfl, hrs, ht⟩
      have hx1 := ht.size
      replace D := D.tch ht
      obtain ⟨n0, hn0⟩ : ∃ z : Int, z = ((nx s).1 : Int) := ⟨_, rfl⟩
      rw [← hn0]
      have HN0 := Lib.hid hn0
      have HS1 := Lib.hid hrs
      clear hn0 hrs ht HS
      go_wp2_with fail
      have X : Whl (x1.alloc (.cells #[.int .i64 n0, .string ⟨#[]⟩, .string ⟨#[]⟩, .int .i64 0, .int .i64 0, .int .i64 0, .int .i64 0, .string ⟨#[]⟩, .int .i64 0] 39)) x1.heap.size 39 #[.int .i64 n0, .string ⟨#[]⟩, .string ⟨#[]⟩, .int .i64 0, .int .i64 0, .int .i64 0, .int .i64 0, .string ⟨#[]⟩, .int .i64 0] := Whl.new rfl
      have hNB : (Value.slice Av nv cv9).ownBlock ≠ some x1.heap.size := fun e => by have := (D.own.lt _ e).2; omega
      replace D := D.fresh ((Below.refl _ _).alloc (Nat.le_refl _) (.cells #[.int .i64 n0, .string ⟨#[]⟩, .string ⟨#[]⟩, .int .i64 0, .int .i64 0, .int .i64 0, .int .i64 0, .string ⟨#[]⟩, .int .i64 0] 39))
      have HS2 := Lib.hid (RS.alloc HS1.out (.cells #[.int .i64 n0, .string ⟨#[]⟩, .string ⟨#[]⟩, .int .i64 0, .int .i64 0, .int .i64 0, .int .i64 0, .string ⟨#[]⟩, .int .i64 0] 39))
      have hz5 : x1.heap.size < (x1.alloc (.cells #[.int .i64 n0, .string ⟨#[]⟩, .string ⟨#[]⟩, .int .i64 0, .int .i64 0, .int .i64 0, .int .i64 0, .string ⟨#[]⟩, .int .i64 0] 39)).heap.size := by simp
      have hgx : w2.heap.size ≤ x1.heap.size := by omega
      generalize (x1.alloc (.cells #[.int .i64 n0, .string ⟨#[]⟩, .string ⟨#[]⟩, .int .i64 0, .int .i64 0, .int .i64 0, .int .i64 0, .string ⟨#[]⟩, .int .i64 0] 39)) = y0 at *
      generalize x1.heap.size = g at *
      replace D := D.fresh (Below.refl y0.heap.size y0).drew
      replace X := X.drew
      replace HS2 := Lib.hid (HS2.out.fresh (Below.refl y0.heap.size y0).drew)
      clear HS1
      refine wp_region_held_drew (S := (fun _ => True)) (by kernel_rfl) trivial (fun hHeld => ?_)
      refine wpAnyH_take (i := 0) (oi := ⟨some 34, _, _, _, _, _⟩) (v := ?v0f_1) rfl (by kernel_rfl) (by kernel_rfl) (by kernel_rfl) (fun _ _ _ h => h) (Or.inl ⟨by rfl, ?y0f_1⟩) (by assumption) ?r0f_1
      case y0f_1 => (intro w hSw; (try dsimp only at hSw); (try go_split_ands); go_simp); (try with_reducible rfl)
      case r0f_1 =>
      (try simp only [Act.put, List.setIfInBounds_toArray, List.set_cons_zero, List.set_cons_succ])
      refine wpAnyH_take (i := 3) (oi := ⟨some 37, _, _, _, _, _⟩) (v := ?v3f_4) rfl (by kernel_rfl) (by kernel_rfl) (by kernel_rfl) (fun _ _ _ h => h) (Or.inl ⟨by rfl, ?y3f_4⟩) (by assumption) ?r3f_4
      case y3f_4 => (intro w hSw; (try dsimp only at hSw); (try go_split_ands); go_simp); (try with_reducible rfl)
      case r3f_4 =>
      (try simp only [Act.put, List.setIfInBounds_toArray, List.set_cons_zero, List.set_cons_succ])
      refine wpAnyH_ready (rs := [1]) (by kernel_rfl) (by simp) ?_
      refine AllReadyH.cons (o := ⟨some 35, _, _, _, _, _⟩) rfl (fun K hK => ?_) AllReadyH.nil
      go_simp
      refine (rfNb (w.heap.size + 1) (nx s).2 _ HS2.out).mono ?_
      rintro q y1 ⟨v1, rfl, ho1, hrs, ht⟩
      have hy1 : y0.heap.size ≤ y1.heap.size := ht.size
      replace D := D.tch ht
      replace X := X.tch ht (by omega)
      have HS3b := Lib.hid hrs
      have hbb : w.heap.size + 1 < y0.drew.heap.size := (show w.heap.size + 1 < y0.heap.size by omega)
      clear hrs ht
      go_wp2_with fail
      refine hK.out _ _ trivial (fun hHeld => ?_)
      clear hK K
      (try simp only [Act.put, List.setIfInBounds_toArray, List.set_cons_zero, List.set_cons_succ])
      refine wpAnyH_ready (rs := [2, 4]) (by kernel_rfl) (by simp) ?_
      refine AllReadyH.cons (o := ⟨some 36, _, _, _, _, _⟩) rfl (fun K hK => ?_) (AllReadyH.cons (o := ⟨some 38, _, _, _, _, _⟩) rfl (fun K hK => ?_) AllReadyH.nil)
      · have cv := conv_own ho1
        obtain ⟨t1, ht1⟩ : ∃ z : ByteArray, z = strU (nb (nx s).2).1 := ⟨_, rfl⟩
        rw [← ht1] at cv
        have HN1 := Lib.hid ht1
        clear ht1
        go_simp
        clear cv ho1
        refine hK.out _ _ trivial (fun hHeld => ?_)
        clear hK K
        (try simp only [Act.put, List.setIfInBounds_toArray, List.set_cons_zero, List.set_cons_succ])
        refine wpAnyH_ready (rs := [4]) (by kernel_rfl) (by simp) ?_
        refine AllReadyH.cons (o := ⟨some 38, _, _, _, _, _⟩) rfl (fun K hK => ?_) AllReadyH.nil
        go_simp
        refine (rfNb (w.heap.size + 1) (nb (nx s).2).2 _ HS3b.out).mono ?_
        rintro q y2 ⟨v2, rfl, ho2, hrs, ht⟩
        have hy2 := ht.size
        replace D := D.tch ht
        replace X := X.tch ht (by omega)
        have HS4 : Hid (RS y2 (w.heap.size + 1) (zn1 s)) := Lib.hid hrs
        clear hrs ht
        go_wp2_with fail
        refine hK.out _ _ trivial (fun hHeld => ?_)
        clear hK K
        (try simp only [Act.put, List.setIfInBounds_toArray, List.set_cons_zero, List.set_cons_succ])
        refine wpAnyH_ready (rs := [5]) (by kernel_rfl) (by simp) ?_
        refine AllReadyH.cons (o := ⟨some 39, _, _, _, _, _⟩) rfl (fun K hK => ?_) AllReadyH.nil
        have cv := conv_own ho2
        obtain ⟨t2, ht2⟩ : ∃ z : ByteArray, z = strU (nb (nb (nx s).2).2).1 := ⟨_, rfl⟩
        rw [← ht2] at cv
        have HN2 := Lib.hid ht2
        clear ht2
        go_simp
        clear cv ho2
        refine hK.out _ _ trivial (fun hHeld => ?_)
        clear hK K
        (try simp only [Act.put, List.setIfInBounds_toArray, List.set_cons_zero, List.set_cons_succ])
        refine wpAnyH_take (i := 6) (oi := ⟨some 40, _, _, _, _, _⟩) (v := ?v6f_60) rfl (by kernel_rfl) (by kernel_rfl) (by kernel_rfl) (fun _ _ _ h => h) (Or.inl ⟨by rfl, ?y6f_60⟩) (by assumption) ?r6f_60
        case y6f_60 => (intro w hSw; (try dsimp only at hSw); (try go_split_ands); go_simp); (try with_reducible rfl)
        case r6f_60 =>
        (try simp only [Act.put, List.setIfInBounds_toArray, List.set_cons_zero, List.set_cons_succ])
        refine wpAnyH_take (i := 7) (oi := ⟨some 41, _, _, _, _, _⟩) (v := ?v7f_63) rfl (by kernel_rfl) (by kernel_rfl) (by kernel_rfl) (fun _ _ _ h => h) (Or.inl ⟨by rfl, ?y7f_63⟩) (by assumption) ?r7f_63
        case y7f_63 => (intro w hSw; (try dsimp only at hSw); (try go_split_ands); go_simp); (try with_reducible rfl)
        case r7f_63 =>
        (try simp only [Act.put, List.setIfInBounds_toArray, List.set_cons_zero, List.set_cons_succ])
        refine wpAnyH_ready (rs := [8]) (by kernel_rfl) (by simp) ?_
        refine AllReadyH.cons (o := ⟨none, _, _, _, _, _⟩) rfl (fun K hK => ?_) AllReadyH.nil
        have d1 := X.cell 1
        have d2 := X.cell 2
        simp only [List.getElem?_toArray, List.getElem?_cons_succ, List.getElem?_cons_zero] at d1 d2
        have f1 := X.free 1
        have f2 := X.free 2
        go_simp
        clear d1 d2 f1 f2
        refine hK.out _ _ trivial (fun hHeld => ?_)
        clear hK K
        (try simp only [Act.put, List.setIfInBounds_toArray, List.set_cons_zero, List.set_cons_succ])
        refine wpAnyH_done (by kernel_rfl) ?_ _
        have SR0 : RS (y2.setCell ⟨g, 1, none⟩ (.string t1)) (w.heap.size + 1) _ := RS.setBlk (i := 1) (v := .string t1) HS4.out X (noU8_zn _ _ _ _ _ _ _ _ _) (by omega)
        have SX0 : Whl (y2.setCell ⟨g, 1, none⟩ (.string t1)) g 39 #[.int .i64 n0, .string t1, .string ⟨#[]⟩, .int .i64 0, .int .i64 0, .int .i64 0, .int .i64 0, .string ⟨#[]⟩, .int .i64 0] := Whl.set X 1 (.string t1)
        have SD0 : DT (w.heap.size + 1) G k s3 ver nxt w2 (y2.setCell ⟨g, 1, none⟩ (.string t1)) _ _ := D.box hgx hNB 1 (.string t1)
        have SR1 : RS ((y2.setCell ⟨g, 1, none⟩ (.string t1)).setCell ⟨g, 2, none⟩ (.string t2)) (w.heap.size + 1) _ := RS.setBlk (i := 2) (v := .string t2) SR0 SX0 (noU8_zn _ _ _ _ _ _ _ _ _) (by omega)
        have SX1 : Whl ((y2.setCell ⟨g, 1, none⟩ (.string t1)).setCell ⟨g, 2, none⟩ (.string t2)) g 39 #[.int .i64 n0, .string t1, .string t2, .int .i64 0, .int .i64 0, .int .i64 0, .int .i64 0, .string ⟨#[]⟩, .int .i64 0] := Whl.set SX0 2 (.string t2)
        have SD1 : DT (w.heap.size + 1) G k s3 ver nxt w2 ((y2.setCell ⟨g, 1, none⟩ (.string t1)).setCell ⟨g, 2, none⟩ (.string t2)) _ _ := SD0.box hgx hNB 2 (.string t2)
        have HSa := Lib.hid SR1
        have hzq : Hid (y2.heap.size = ((y2.setCell ⟨g, 1, none⟩ (.string t1)).setCell ⟨g, 2, none⟩ (.string t2)).heap.size) := Lib.hid (by simp [World.setCell])
        clear X D HS4
        go_wp2_with fail
        generalize ((y2.setCell ⟨g, 1, none⟩ (.string t1)).setCell ⟨g, 2, none⟩ (.string t2)) = z0 at *
        have X := SX1
        have D := SD1
        have hzz0 := hzq.out
        clear SR0 SR1 SX0 SX1 SD0 SD1 hzq
        refine (rfNxT (w.heap.size + 1) (zn1 s) _ HSa.out).mono ?_
        rintro e z3 ⟨rfl, hrs, ht⟩
        have hq3 := ht.size
        replace D := D.tch ht
        replace X := X.tch ht (by omega)
        obtain ⟨n3, hn3⟩ : ∃ z : Int, z = ((nx (zn1 s)).1 : Int) := ⟨_, rfl⟩
        rw [← hn3]
        have HN3 := Lib.hid hn3
        have HSb3 : Hid (RS z3 (w.heap.size + 1) (nx (zn1 s)).2) := Lib.hid hrs
        clear hn3 hrs ht HSa
        go_wp2_with fail
        refine (rfNxT (w.heap.size + 1) (nx (zn1 s)).2 _ HSb3.out).mono ?_
        rintro e z4 ⟨rfl, hrs, ht⟩
        have hq4 := ht.size
        replace D := D.tch ht
        replace X := X.tch ht (by omega)
        obtain ⟨n4, hn4⟩ : ∃ z : Int, z = ((nx (nx (zn1 s)).2).1 : Int) := ⟨_, rfl⟩
        rw [← hn4]
        have HN4 := Lib.hid hn4
        have HSb4 : Hid (RS z4 (w.heap.size + 1) (nx (nx (zn1 s)).2).2) := Lib.hid hrs
        clear hn4 hrs ht HSb3
        go_wp2_with fail
        refine (rfNxT (w.heap.size + 1) (nx (nx (zn1 s)).2).2 _ HSb4.out).mono ?_
        rintro e z5 ⟨rfl, hrs, ht⟩
        have hq5 := ht.size
        replace D := D.tch ht
        replace X := X.tch ht (by omega)
        obtain ⟨n5, hn5⟩ : ∃ z : Int, z = ((nx (nx (nx (zn1 s)).2).2).1 : Int) := ⟨_, rfl⟩
        rw [← hn5]
        have HN5 := Lib.hid hn5
        have HSb5 : Hid (RS z5 (w.heap.size + 1) (nx (nx (nx (zn1 s)).2).2).2) := Lib.hid hrs
        clear hn5 hrs ht HSb4
        go_wp2_with fail
        refine (rfNxT (w.heap.size + 1) (nx (nx (nx (zn1 s)).2).2).2 _ HSb5.out).mono ?_
        rintro e z6 ⟨rfl, hrs, ht⟩
        have hq6 := ht.size
        replace D := D.tch ht
        replace X := X.tch ht (by omega)
        obtain ⟨n6, hn6⟩ : ∃ z : Int, z = ((nx (nx (nx (nx (zn1 s)).2).2).2).1 : Int) := ⟨_, rfl⟩
        rw [← hn6]
        have HN6 := Lib.hid hn6
        have HSb6 : Hid (RS z6 (w.heap.size + 1) (zn2 (zn1 s))) := Lib.hid hrs
        clear hn6 hrs ht HSb5
        have d3 := X.cell 3
        have d4 := X.cell 4
        have d5 := X.cell 5
        have d6 := X.cell 6
        simp only [List.getElem?_toArray, List.getElem?_cons_succ, List.getElem?_cons_zero] at d3 d4 d5 d6
        have f3 := X.free 3
        have f4 := X.free 4
        have f5 := X.free 5
        have f6 := X.free 6
        have SR0 : RS (z6.setCell ⟨g, 3, none⟩ (.int .i64 n3)) (w.heap.size + 1) _ := RS.setBlk (i := 3) (v := .int .i64 n3) HSb6.out X (noU8_zn _ _ _ _ _ _ _ _ _) (by omega)
        have SX0 : Whl (z6.setCell ⟨g, 3, none⟩ (.int .i64 n3)) g 39 #[.int .i64 n0, .string t1, .string t2, .int .i64 n3, .int .i64 0, .int .i64 0, .int .i64 0, .string ⟨#[]⟩, .int .i64 0] := Whl.set X 3 (.int .i64 n3)
        have SD0 : DT (w.heap.size + 1) G k s3 ver nxt w2 (z6.setCell ⟨g, 3, none⟩ (.int .i64 n3)) _ _ := D.box hgx hNB 3 (.int .i64 n3)
        have SR1 : RS ((z6.setCell ⟨g, 3, none⟩ (.int .i64 n3)).setCell ⟨g, 4, none⟩ (.int .i64 n4)) (w.heap.size + 1) _ := RS.setBlk (i := 4) (v := .int .i64 n4) SR0 SX0 (noU8_zn _ _ _ _ _ _ _ _ _) (by omega)
        have SX1 : Whl ((z6.setCell ⟨g, 3, none⟩ (.int .i64 n3)).setCell ⟨g, 4, none⟩ (.int .i64 n4)) g 39 #[.int .i64 n0, .string t1, .string t2, .int .i64 n3, .int .i64 n4, .int .i64 0, .int .i64 0, .string ⟨#[]⟩, .int .i64 0] := Whl.set SX0 4 (.int .i64 n4)
        have SD1 : DT (w.heap.size + 1) G k s3 ver nxt w2 ((z6.setCell ⟨g, 3, none⟩ (.int .i64 n3)).setCell ⟨g, 4, none⟩ (.int .i64 n4)) _ _ := SD0.box hgx hNB 4 (.int .i64 n4)
        have SR2 : RS (((z6.setCell ⟨g, 3, none⟩ (.int .i64 n3)).setCell ⟨g, 4, none⟩ (.int .i64 n4)).setCell ⟨g, 5, none⟩ (.int .i64 n5)) (w.heap.size + 1) _ := RS.setBlk (i := 5) (v := .int .i64 n5) SR1 SX1 (noU8_zn _ _ _ _ _ _ _ _ _) (by omega)
        have SX2 : Whl (((z6.setCell ⟨g, 3, none⟩ (.int .i64 n3)).setCell ⟨g, 4, none⟩ (.int .i64 n4)).setCell ⟨g, 5, none⟩ (.int .i64 n5)) g 39 #[.int .i64 n0, .string t1, .string t2, .int .i64 n3, .int .i64 n4, .int .i64 n5, .int .i64 0, .string ⟨#[]⟩, .int .i64 0] := Whl.set SX1 5 (.int .i64 n5)
        have SD2 : DT (w.heap.size + 1) G k s3 ver nxt w2 (((z6.setCell ⟨g, 3, none⟩ (.int .i64 n3)).setCell ⟨g, 4, none⟩ (.int .i64 n4)).setCell ⟨g, 5, none⟩ (.int .i64 n5)) _ _ := SD1.box hgx hNB 5 (.int .i64 n5)
        have SR3 : RS ((((z6.setCell ⟨g, 3, none⟩ (.int .i64 n3)).setCell ⟨g, 4, none⟩ (.int .i64 n4)).setCell ⟨g, 5, none⟩ (.int .i64 n5)).setCell ⟨g, 6, none⟩ (.int .i64 n6)) (w.heap.size + 1) _ := RS.setBlk (i := 6) (v := .int .i64 n6) SR2 SX2 (noU8_zn _ _ _ _ _ _ _ _ _) (by omega)
        have SX3 : Whl ((((z6.setCell ⟨g, 3, none⟩ (.int .i64 n3)).setCell ⟨g, 4, none⟩ (.int .i64 n4)).setCell ⟨g, 5, none⟩ (.int .i64 n5)).setCell ⟨g, 6, none⟩ (.int .i64 n6)) g 39 #[.int .i64 n0, .string t1, .string t2, .int .i64 n3, .int .i64 n4, .int .i64 n5, .int .i64 n6, .string ⟨#[]⟩, .int .i64 0] := Whl.set SX2 6 (.int .i64 n6)
        have SD3 : DT (w.heap.size + 1) G k s3 ver nxt w2 ((((z6.setCell ⟨g, 3, none⟩ (.int .i64 n3)).setCell ⟨g, 4, none⟩ (.int .i64 n4)).setCell ⟨g, 5, none⟩ (.int .i64 n5)).setCell ⟨g, 6, none⟩ (.int .i64 n6)) _ _ := SD2.box hgx hNB 6 (.int .i64 n6)
        have HSc := Lib.hid SR3
        have hzq : Hid (z6.heap.size = ((((z6.setCell ⟨g, 3, none⟩ (.int .i64 n3)).setCell ⟨g, 4, none⟩ (.int .i64 n4)).setCell ⟨g, 5, none⟩ (.int .i64 n5)).setCell ⟨g, 6, none⟩ (.int .i64 n6)).heap.size) := Lib.hid (by simp [World.setCell])
        clear X D HSb6
        go_wp2_with fail
        generalize ((((z6.setCell ⟨g, 3, none⟩ (.int .i64 n3)).setCell ⟨g, 4, none⟩ (.int .i64 n4)).setCell ⟨g, 5, none⟩ (.int .i64 n5)).setCell ⟨g, 6, none⟩ (.int .i64 n6)) = z7 at *
        have X := SX3
        have D := SD3
        have hz7 := hzq.out
        clear SR0 SX0 SD0 SR1 SX1 SD1 SR2 SX2 SD2 SR3 SX3 SD3 hzq d3 f3 d4 f4 d5 f5 d6 f6
        refine (rfNb (w.heap.size + 1) (zn2 (zn1 s)) _ HSc.out).mono ?_
        rintro e z8 ⟨v7, rfl, ho7, hrs, ht⟩
        have hq8 := ht.size
        replace D := D.tch ht
        replace X := X.tch ht (by omega)
        have cv := conv_own ho7
        obtain ⟨t7, ht7⟩ : ∃ z : ByteArray, z = strU (nb (zn2 (zn1 s))).1 := ⟨_, rfl⟩
        rw [← ht7] at cv
        have HN7 := Lib.hid ht7
        clear ht7
        have d7 := X.cell 7
        simp only [List.getElem?_toArray, List.getElem?_cons_succ, List.getElem?_cons_zero] at d7
        have f7 := X.free 7
        have SR0 : RS (z8.setCell ⟨g, 7, none⟩ (.string t7)) (w.heap.size + 1) _ := RS.setBlk (i := 7) (v := .string t7) hrs X (noU8_zn _ _ _ _ _ _ _ _ _) (by omega)
        have SX0 : Whl (z8.setCell ⟨g, 7, none⟩ (.string t7)) g 39 #[.int .i64 n0, .string t1, .string t2, .int .i64 n3, .int .i64 n4, .int .i64 n5, .int .i64 n6, .string t7, .int .i64 0] := Whl.set X 7 (.string t7)
        have SD0 : DT (w.heap.size + 1) G k s3 ver nxt w2 (z8.setCell ⟨g, 7, none⟩ (.string t7)) _ _ := D.box hgx hNB 7 (.string t7)
        have HSd : Hid (RS (z8.setCell ⟨g, 7, none⟩ (.string t7)) (w.heap.size + 1) (nb (zn2 (zn1 s))).2) := Lib.hid SR0
        have hzq : Hid (z8.heap.size = (z8.setCell ⟨g, 7, none⟩ (.string t7)).heap.size) := Lib.hid (by simp [World.setCell])
        clear X D hrs ht ho7 HSc
        go_wp2_with fail
        generalize (z8.setCell ⟨g, 7, none⟩ (.string t7)) = z9 at *
        have X := SX0
        have D := SD0
        have hz9 := hzq.out
        clear SR0 SX0 SD0 hzq d7 f7 cv
        refine (rfNxT (w.heap.size + 1) (nb (zn2 (zn1 s))).2 _ HSd.out).mono ?_
        rintro e z10 ⟨rfl, hrs, ht⟩
        have hq10 := ht.size
        replace D := D.tch ht
        replace X := X.tch ht (by omega)
        obtain ⟨n8, hn8⟩ : ∃ z : Int, z = ((nx (nb (zn2 (zn1 s))).2).1 : Int) := ⟨_, rfl⟩
        rw [← hn8]
        have HN8 := Lib.hid hn8
        have d8 := X.cell 8
        simp only [List.getElem?_toArray, List.getElem?_cons_succ, List.getElem?_cons_zero] at d8
        have f8 := X.free 8
        have SR0 : RS (z10.setCell ⟨g, 8, none⟩ (.int .i64 n8)) (w.heap.size + 1) _ := RS.setBlk (i := 8) (v := .int .i64 n8) hrs X (noU8_zn _ _ _ _ _ _ _ _ _) (by omega)
        have SX0 : Whl (z10.setCell ⟨g, 8, none⟩ (.int .i64 n8)) g 39 #[.int .i64 n0, .string t1, .string t2, .int .i64 n3, .int .i64 n4, .int .i64 n5, .int .i64 n6, .string t7, .int .i64 n8] := Whl.set X 8 (.int .i64 n8)
        have SD0 : DT (w.heap.size + 1) G k s3 ver nxt w2 (z10.setCell ⟨g, 8, none⟩ (.int .i64 n8)) _ _ := D.box hgx hNB 8 (.int .i64 n8)
        have HSe : Hid (RS (z10.setCell ⟨g, 8, none⟩ (.int .i64 n8)) (w.heap.size + 1) (znE s)) := Lib.hid SR0
        have hzq : Hid (z10.heap.size = (z10.setCell ⟨g, 8, none⟩ (.int .i64 n8)).heap.size) := Lib.hid (by simp [World.setCell])
        have HX8 := Lib.hid SX0
        have HD8 := Lib.hid SD0
        clear X D hrs ht hn8 HSd SR0 SX0 SD0
        obtain ⟨z11, hz11⟩ : ∃ x, x = (z10.setCell ⟨g, 8, none⟩ (.int .i64 n8)) := ⟨_, rfl⟩
        rw [← hz11] at HSe hzq HX8 HD8
        have HZ11 := Lib.hid hz11
        have D := HD8.out
        have X := HX8.out
        have hz11s := hzq.out
        have HFIN : Hid (∀ (v5 : Value) (x5 : World), x5.ownsRow w2.heap.size 39 9 v5 (k + 1) (flatZ (zL k s3) ++ znV ⟨n0, t1, t2, n3, n4, n5, n6, t7, n8⟩) → Touch (fun q => (Value.slice Av nv cv9).ownBlock = some q) (z11.alloc (.cells #[.int .i64 n0, .string t1, .string t2, .int .i64 n3, .int .i64 n4, .int .i64 n5, .int .i64 n6, .string t7, .int .i64 n8] 39)) x5 → DS (w.heap.size + 1) G (k + 1) (k + 1) s3 ver nxt w2 x5 (.slice Av nv cv9) v5) := Lib.hid (fun v5 x5 ho5 ht5 => by
          have hzn : (⟨n0, t1, t2, n3, n4, n5, n6, t7, n8⟩ : Zn) = znD (zS k s3) := by rw [HSK.out, HN0.out, HN1.out, HN2.out, HN3.out, HN4.out, HN5.out, HN6.out, HN7.out, HN8.out]; rfl
          have h1 : RS z11 (w.heap.size + 1) (zS (k + 1) s3) := by rw [zS, HSK.out]; exact HSe.out
          exact ((HD8.out.ds h1).fresh ((Below.refl _ _).alloc (Nat.le_refl _) (.cells #[.int .i64 n0, .string t1, .string t2, .int .i64 n3, .int .i64 n4, .int .i64 n5, .int .i64 n6, .string t7, .int .i64 n8] 39))).app hzn ho5 ht5)
        have HOWN : Hid ((z11.alloc (.cells #[.int .i64 n0, .string t1, .string t2, .int .i64 n3, .int .i64 n4, .int .i64 n5, .int .i64 n6, .string t7, .int .i64 n8] 39)).ownsRow w2.heap.size 39 9 (.slice Av nv cv9) k (flatZ (zL k s3))) := Lib.hid (D.own.alloc _)
        have HCS : Hid (Cells (z11.alloc (.cells #[.int .i64 n0, .string t1, .string t2, .int .i64 n3, .int .i64 n4, .int .i64 n5, .int .i64 n6, .string t7, .int .i64 n8] 39)) (z11.heap.size + 1) (some ⟨z11.heap.size, 0, none⟩) 1 1 9 (znV ⟨n0, t1, t2, n3, n4, n5, n6, t7, n8⟩)) := Lib.hid ⟨rfl, (fun e => by cases e), fun k u hu => ⟨_, _, rfl, by omega, by rw [Nat.zero_add, (Whl.new (w := z11) (t := 39) (cs := #[.int .i64 n0, .string t1, .string t2, .int .i64 n3, .int .i64 n4, .int .i64 n5, .int .i64 n6, .string t7, .int .i64 n8]) (n := z11.heap.size) rfl).cell]; simpa [znV] using hu⟩⟩
        have hw2z : w2.heap.size ≤ z11.heap.size := D.tou.size
        clear D X
        go_upto_region 12 with fail
        rw [← hz11]
        clear d8 f8
        have D := HD8.out
        have X := HX8.out
        have d0 := X.cell 0
        have d1 := X.cell 1
        have d2 := X.cell 2
        have d3 := X.cell 3
        have d4 := X.cell 4
        have d5 := X.cell 5
        have d6 := X.cell 6
        have d7 := X.cell 7
        have d8 := X.cell 8
        simp only [List.getElem?_toArray, List.getElem?_cons_succ, List.getElem?_cons_zero] at d0 d1 d2 d3 d4 d5 d6 d7 d8
        have m2 := D.g.cell 2
        simp only [List.getElem?_toArray, List.getElem?_cons_succ, List.getElem?_cons_zero] at m2
        clear D X hz11
        go_wp2_with (at_builtin; go_must (refine wpList_append_touch rfl (.tmp 62) (.tmp 64) 31 rfl w2.heap.size 39 i0 _ 9 96 Try.underlying31 hi0 hz0 hz1 hz2 rfl (by decide) (.slice Av nv cv9) k (flatZ (zL k s3)) rfl HOWN.out (z11.heap.size + 1) (some ⟨z11.heap.size, 0, none⟩) 1 1 (znV ⟨n0, t1, t2, n3, n4, n5, n6, t7, n8⟩) rfl HCS.out (fun u hu => flatZ_one [⟨n0, t1, t2, n3, n4, n5, n6, t7, n8⟩] u (by simpa [flatZ] using hu)) (by unfold maxLen; omega) (by omega) (by (try simp); omega) ?_); intro v5 x5 ho5 ht5 hv5; obtain ⟨A5, c5, hv6, _, _, _⟩ := own_slice ho5; subst hv6; have D := HFIN.out _ _ ho5 ht5; have g2 := D.g.cell 2; simp only [List.getElem?_toArray, List.getElem?_cons_succ, List.getElem?_cons_zero] at g2; have gf2 := D.g.free 2; have HD9 := Lib.hid D; clear ho5 ht5 hv5 D)
        exact ⟨⟨k + 1, _, by omega, by go_num, HD9.out.store⟩, measZ hkt⟩
      · go_simp
        refine (rfNb (w.heap.size + 1) (nb (nx s).2).2 _ HS3b.out).mono ?_
        rintro q y2 ⟨v2, rfl, ho2, hrs, ht⟩
        have hy2 := ht.size
        replace D := D.tch ht
        replace X := X.tch ht (by omega)
        have HS4 : Hid (RS y2 (w.heap.size + 1) (zn1 s)) := Lib.hid hrs
        have ho1 := row_tch (w2 := w2) ho1 ht hbb
        clear hrs ht
        go_wp2_with fail
        refine hK.out _ _ trivial (fun hHeld => ?_)
        clear hK K
        (try simp only [Act.put, List.setIfInBounds_toArray, List.set_cons_zero, List.set_cons_succ])
        refine wpAnyH_ready (rs := [2, 5]) (by kernel_rfl) (by simp) ?_
        refine AllReadyH.cons (o := ⟨some 36, _, _, _, _, _⟩) rfl (fun K hK => ?_) (AllReadyH.cons (o := ⟨some 39, _, _, _, _, _⟩) rfl (fun K hK => ?_) AllReadyH.nil)
        · have cv := conv_own ho1
          obtain ⟨t1, ht1⟩ : ∃ z : ByteArray, z = strU (nb (nx s).2).1 := ⟨_, rfl⟩
          rw [← ht1] at cv
          have HN1 := Lib.hid ht1
          clear ht1
          go_simp
          clear cv ho1
          refine hK.out _ _ trivial (fun hHeld => ?_)
          clear hK K
          (try simp only [Act.put, List.setIfInBounds_toArray, List.set_cons_zero, List.set_cons_succ])
          refine wpAnyH_ready (rs := [5]) (by kernel_rfl) (by simp) ?_
          refine AllReadyH.cons (o := ⟨some 39, _, _, _, _, _⟩) rfl (fun K hK => ?_) AllReadyH.nil
          have cv := conv_own ho2
          obtain ⟨t2, ht2⟩ : ∃ z : ByteArray, z = strU (nb (nb (nx s).2).2).1 := ⟨_, rfl⟩
          rw [← ht2] at cv
          have HN2 := Lib.hid ht2
          clear ht2
          go_simp
          clear cv ho2
          refine hK.out _ _ trivial (fun hHeld => ?_)
          clear hK K
          (try simp only [Act.put, List.setIfInBounds_toArray, List.set_cons_zero, List.set_cons_succ])
          refine wpAnyH_take (i := 6) (oi := ⟨some 40, _, _, _, _, _⟩) (v := ?v6f_282) rfl (by kernel_rfl) (by kernel_rfl) (by kernel_rfl) (fun _ _ _ h => h) (Or.inl ⟨by rfl, ?y6f_282⟩) (by assumption) ?r6f_282
          case y6f_282 => (intro w hSw; (try dsimp only at hSw); (try go_split_ands); go_simp); (try with_reducible rfl)
          case r6f_282 =>
          (try simp only [Act.put, List.setIfInBounds_toArray, List.set_cons_zero, List.set_cons_succ])
          refine wpAnyH_take (i := 7) (oi := ⟨some 41, _, _, _, _, _⟩) (v := ?v7f_285) rfl (by kernel_rfl) (by kernel_rfl) (by kernel_rfl) (fun _ _ _ h => h) (Or.inl ⟨by rfl, ?y7f_285⟩) (by assumption) ?r7f_285
          case y7f_285 => (intro w hSw; (try dsimp only at hSw); (try go_split_ands); go_simp); (try with_reducible rfl)
          case r7f_285 =>
          (try simp only [Act.put, List.setIfInBounds_toArray, List.set_cons_zero, List.set_cons_succ])
          refine wpAnyH_ready (rs := [8]) (by kernel_rfl) (by simp) ?_
          refine AllReadyH.cons (o := ⟨none, _, _, _, _, _⟩) rfl (fun K hK => ?_) AllReadyH.nil
          have d1 := X.cell 1
          have d2 := X.cell 2
          simp only [List.getElem?_toArray, List.getElem?_cons_succ, List.getElem?_cons_zero] at d1 d2
          have f1 := X.free 1
          have f2 := X.free 2
          go_simp
          clear d1 d2 f1 f2
          refine hK.out _ _ trivial (fun hHeld => ?_)
          clear hK K
          (try simp only [Act.put, List.setIfInBounds_toArray, List.set_cons_zero, List.set_cons_succ])
          refine wpAnyH_done (by kernel_rfl) ?_ _
          have SR0 : RS (y2.setCell ⟨g, 1, none⟩ (.string t1)) (w.heap.size + 1) _ := RS.setBlk (i := 1) (v := .string t1) HS4.out X (noU8_zn _ _ _ _ _ _ _ _ _) (by omega)
          have SX0 : Whl (y2.setCell ⟨g, 1, none⟩ (.string t1)) g 39 #[.int .i64 n0, .string t1, .string ⟨#[]⟩, .int .i64 0, .int .i64 0, .int .i64 0, .int .i64 0, .string ⟨#[]⟩, .int .i64 0] := Whl.set X 1 (.string t1)
          have SD0 : DT (w.heap.size + 1) G k s3 ver nxt w2 (y2.setCell ⟨g, 1, none⟩ (.string t1)) _ _ := D.box hgx hNB 1 (.string t1)
          have SR1 : RS ((y2.setCell ⟨g, 1, none⟩ (.string t1)).setCell ⟨g, 2, none⟩ (.string t2)) (w.heap.size + 1) _ := RS.setBlk (i := 2) (v := .string t2) SR0 SX0 (noU8_zn _ _ _ _ _ _ _ _ _) (by omega)
          have SX1 : Whl ((y2.setCell ⟨g, 1, none⟩ (.string t1)).setCell ⟨g, 2, none⟩ (.string t2)) g 39 #[.int .i64 n0, .string t1, .string t2, .int .i64 0, .int .i64 0, .int .i64 0, .int .i64 0, .string ⟨#[]⟩, .int .i64 0] := Whl.set SX0 2 (.string t2)
          have SD1 : DT (w.heap.size + 1) G k s3 ver nxt w2 ((y2.setCell ⟨g, 1, none⟩ (.string t1)).setCell ⟨g, 2, none⟩ (.string t2)) _ _ := SD0.box hgx hNB 2 (.string t2)
          have HSa := Lib.hid SR1
          have hzq : Hid (y2.heap.size = ((y2.setCell ⟨g, 1, none⟩ (.string t1)).setCell ⟨g, 2, none⟩ (.string t2)).heap.size) := Lib.hid (by simp [World.setCell])
          clear X D HS4
          go_wp2_with fail
          generalize ((y2.setCell ⟨g, 1, none⟩ (.string t1)).setCell ⟨g, 2, none⟩ (.string t2)) = z0 at *
          have X := SX1
          have D := SD1
          have hzz0 := hzq.out
          clear SR0 SR1 SX0 SX1 SD0 SD1 hzq
          refine (rfNxT (w.heap.size + 1) (zn1 s) _ HSa.out).mono ?_
          rintro e z3 ⟨rfl, hrs, ht⟩
          have hq3 := ht.size
          replace D := D.tch ht
          replace X := X.tch ht (by omega)
          obtain ⟨n3, hn3⟩ : ∃ z : Int, z = ((nx (zn1 s)).1 : Int) := ⟨_, rfl⟩
          rw [← hn3]
          have HN3 := Lib.hid hn3
          have HSb3 : Hid (RS z3 (w.heap.size + 1) (nx (zn1 s)).2) := Lib.hid hrs
          clear hn3 hrs ht HSa
          go_wp2_with fail
          refine (rfNxT (w.heap.size + 1) (nx (zn1 s)).2 _ HSb3.out).mono ?_
          rintro e z4 ⟨rfl, hrs, ht⟩
          have hq4 := ht.size
          replace D := D.tch ht
          replace X := X.tch ht (by omega)
          obtain ⟨n4, hn4⟩ : ∃ z : Int, z = ((nx (nx (zn1 s)).2).1 : Int) := ⟨_, rfl⟩
          rw [← hn4]
          have HN4 := Lib.hid hn4
          have HSb4 : Hid (RS z4 (w.heap.size + 1) (nx (nx (zn1 s)).2).2) := Lib.hid hrs
          clear hn4 hrs ht HSb3
          go_wp2_with fail
          refine (rfNxT (w.heap.size + 1) (nx (nx (zn1 s)).2).2 _ HSb4.out).mono ?_
          rintro e z5 ⟨rfl, hrs, ht⟩
          have hq5 := ht.size
          replace D := D.tch ht
          replace X := X.tch ht (by omega)
          obtain ⟨n5, hn5⟩ : ∃ z : Int, z = ((nx (nx (nx (zn1 s)).2).2).1 : Int) := ⟨_, rfl⟩
          rw [← hn5]
          have HN5 := Lib.hid hn5
          have HSb5 : Hid (RS z5 (w.heap.size + 1) (nx (nx (nx (zn1 s)).2).2).2) := Lib.hid hrs
          clear hn5 hrs ht HSb4
          go_wp2_with fail
          refine (rfNxT (w.heap.size + 1) (nx (nx (nx (zn1 s)).2).2).2 _ HSb5.out).mono ?_
          rintro e z6 ⟨rfl, hrs, ht⟩
          have hq6 := ht.size
          replace D := D.tch ht
          replace X := X.tch ht (by omega)
          obtain ⟨n6, hn6⟩ : ∃ z : Int, z = ((nx (nx (nx (nx (zn1 s)).2).2).2).1 : Int) := ⟨_, rfl⟩
          rw [← hn6]
          have HN6 := Lib.hid hn6
          have HSb6 : Hid (RS z6 (w.heap.size + 1) (zn2 (zn1 s))) := Lib.hid hrs
          clear hn6 hrs ht HSb5
          have d3 := X.cell 3
          have d4 := X.cell 4
          have d5 := X.cell 5
          have d6 := X.cell 6
          simp only [List.getElem?_toArray, List.getElem?_cons_succ, List.getElem?_cons_zero] at d3 d4 d5 d6
          have f3 := X.free 3
          have f4 := X.free 4
          have f5 := X.free 5
          have f6 := X.free 6
          have SR0 : RS (z6.setCell ⟨g, 3, none⟩ (.int .i64 n3)) (w.heap.size + 1) _ := RS.setBlk (i := 3) (v := .int .i64 n3) HSb6.out X (noU8_zn _ _ _ _ _ _ _ _ _) (by omega)
          have SX0 : Whl (z6.setCell ⟨g, 3, none⟩ (.int .i64 n3)) g 39 #[.int .i64 n0, .string t1, .string t2, .int .i64 n3, .int .i64 0, .int .i64 0, .int .i64 0, .string ⟨#[]⟩, .int .i64 0] := Whl.set X 3 (.int .i64 n3)
          have SD0 : DT (w.heap.size + 1) G k s3 ver nxt w2 (z6.setCell ⟨g, 3, none⟩ (.int .i64 n3)) _ _ := D.box hgx hNB 3 (.int .i64 n3)
          have SR1 : RS ((z6.setCell ⟨g, 3, none⟩ (.int .i64 n3)).setCell ⟨g, 4, none⟩ (.int .i64 n4)) (w.heap.size + 1) _ := RS.setBlk (i := 4) (v := .int .i64 n4) SR0 SX0 (noU8_zn _ _ _ _ _ _ _ _ _) (by omega)
          have SX1 : Whl ((z6.setCell ⟨g, 3, none⟩ (.int .i64 n3)).setCell ⟨g, 4, none⟩ (.int .i64 n4)) g 39 #[.int .i64 n0, .string t1, .string t2, .int .i64 n3, .int .i64 n4, .int .i64 0, .int .i64 0, .string ⟨#[]⟩, .int .i64 0] := Whl.set SX0 4 (.int .i64 n4)
          have SD1 : DT (w.heap.size + 1) G k s3 ver nxt w2 ((z6.setCell ⟨g, 3, none⟩ (.int .i64 n3)).setCell ⟨g, 4, none⟩ (.int .i64 n4)) _ _ := SD0.box hgx hNB 4 (.int .i64 n4)
          have SR2 : RS (((z6.setCell ⟨g, 3, none⟩ (.int .i64 n3)).setCell ⟨g, 4, none⟩ (.int .i64 n4)).setCell ⟨g, 5, none⟩ (.int .i64 n5)) (w.heap.size + 1) _ := RS.setBlk (i := 5) (v := .int .i64 n5) SR1 SX1 (noU8_zn _ _ _ _ _ _ _ _ _) (by omega)
          have SX2 : Whl (((z6.setCell ⟨g, 3, none⟩ (.int .i64 n3)).setCell ⟨g, 4, none⟩ (.int .i64 n4)).setCell ⟨g, 5, none⟩ (.int .i64 n5)) g 39 #[.int .i64 n0, .string t1, .string t2, .int .i64 n3, .int .i64 n4, .int .i64 n5, .int .i64 0, .string ⟨#[]⟩, .int .i64 0] := Whl.set SX1 5 (.int .i64 n5)
          have SD2 : DT (w.heap.size + 1) G k s3 ver nxt w2 (((z6.setCell ⟨g, 3, none⟩ (.int .i64 n3)).setCell ⟨g, 4, none⟩ (.int .i64 n4)).setCell ⟨g, 5, none⟩ (.int .i64 n5)) _ _ := SD1.box hgx hNB 5 (.int .i64 n5)
          have SR3 : RS ((((z6.setCell ⟨g, 3, none⟩ (.int .i64 n3)).setCell ⟨g, 4, none⟩ (.int .i64 n4)).setCell ⟨g, 5, none⟩ (.int .i64 n5)).setCell ⟨g, 6, none⟩ (.int .i64 n6)) (w.heap.size + 1) _ := RS.setBlk (i := 6) (v := .int .i64 n6) SR2 SX2 (noU8_zn _ _ _ _ _ _ _ _ _) (by omega)
          have SX3 : Whl ((((z6.setCell ⟨g, 3, none⟩ (.int .i64 n3)).setCell ⟨g, 4, none⟩ (.int .i64 n4)).setCell ⟨g, 5, none⟩ (.int .i64 n5)).setCell ⟨g, 6, none⟩ (.int .i64 n6)) g 39 #[.int .i64 n0, .string t1, .string t2, .int .i64 n3, .int .i64 n4, .int .i64 n5, .int .i64 n6, .string ⟨#[]⟩, .int .i64 0] := Whl.set SX2 6 (.int .i64 n6)
          have SD3 : DT (w.heap.size + 1) G k s3 ver nxt w2 ((((z6.setCell ⟨g, 3, none⟩ (.int .i64 n3)).setCell ⟨g, 4, none⟩ (.int .i64 n4)).setCell ⟨g, 5, none⟩ (.int .i64 n5)).setCell ⟨g, 6, none⟩ (.int .i64 n6)) _ _ := SD2.box hgx hNB 6 (.int .i64 n6)
          have HSc := Lib.hid SR3
          have hzq : Hid (z6.heap.size = ((((z6.setCell ⟨g, 3, none⟩ (.int .i64 n3)).setCell ⟨g, 4, none⟩ (.int .i64 n4)).setCell ⟨g, 5, none⟩ (.int .i64 n5)).setCell ⟨g, 6, none⟩ (.int .i64 n6)).heap.size) := Lib.hid (by simp [World.setCell])
          clear X D HSb6
          go_wp2_with fail
          generalize ((((z6.setCell ⟨g, 3, none⟩ (.int .i64 n3)).setCell ⟨g, 4, none⟩ (.int .i64 n4)).setCell ⟨g, 5, none⟩ (.int .i64 n5)).setCell ⟨g, 6, none⟩ (.int .i64 n6)) = z7 at *
          have X := SX3
          have D := SD3
          have hz7 := hzq.out
          clear SR0 SX0 SD0 SR1 SX1 SD1 SR2 SX2 SD2 SR3 SX3 SD3 hzq d3 f3 d4 f4 d5 f5 d6 f6
          refine (rfNb (w.heap.size + 1) (zn2 (zn1 s)) _ HSc.out).mono ?_
          rintro e z8 ⟨v7, rfl, ho7, hrs, ht⟩
          have hq8 := ht.size
          replace D := D.tch ht
          replace X := X.tch ht (by omega)
          have cv := conv_own ho7
          obtain ⟨t7, ht7⟩ : ∃ z : ByteArray, z = strU (nb (zn2 (zn1 s))).1 := ⟨_, rfl⟩
          rw [← ht7] at cv
          have HN7 := Lib.hid ht7
          clear ht7
          have d7 := X.cell 7
          simp only [List.getElem?_toArray, List.getElem?_cons_succ, List.getElem?_cons_zero] at d7
          have f7 := X.free 7
          have SR0 : RS (z8.setCell ⟨g, 7, none⟩ (.string t7)) (w.heap.size + 1) _ := RS.setBlk (i := 7) (v := .string t7) hrs X (noU8_zn _ _ _ _ _ _ _ _ _) (by omega)
          have SX0 : Whl (z8.setCell ⟨g, 7, none⟩ (.string t7)) g 39 #[.int .i64 n0, .string t1, .string t2, .int .i64 n3, .int .i64 n4, .int .i64 n5, .int .i64 n6, .string t7, .int .i64 0] := Whl.set X 7 (.string t7)
          have SD0 : DT (w.heap.size + 1) G k s3 ver nxt w2 (z8.setCell ⟨g, 7, none⟩ (.string t7)) _ _ := D.box hgx hNB 7 (.string t7)
          have HSd : Hid (RS (z8.setCell ⟨g, 7, none⟩ (.string t7)) (w.heap.size + 1) (nb (zn2 (zn1 s))).2) := Lib.hid SR0
          have hzq : Hid (z8.heap.size = (z8.setCell ⟨g, 7, none⟩ (.string t7)).heap.size) := Lib.hid (by simp [World.setCell])
          clear X D hrs ht ho7 HSc
          go_wp2_with fail
          generalize (z8.setCell ⟨g, 7, none⟩ (.string t7)) = z9 at *
          have X := SX0
          have D := SD0
          have hz9 := hzq.out
          clear SR0 SX0 SD0 hzq d7 f7 cv
          refine (rfNxT (w.heap.size + 1) (nb (zn2 (zn1 s))).2 _ HSd.out).mono ?_
          rintro e z10 ⟨rfl, hrs, ht⟩
          have hq10 := ht.size
          replace D := D.tch ht
          replace X := X.tch ht (by omega)
          obtain ⟨n8, hn8⟩ : ∃ z : Int, z = ((nx (nb (zn2 (zn1 s))).2).1 : Int) := ⟨_, rfl⟩
          rw [← hn8]
          have HN8 := Lib.hid hn8
          have d8 := X.cell 8
          simp only [List.getElem?_toArray, List.getElem?_cons_succ, List.getElem?_cons_zero] at d8
          have f8 := X.free 8
          have SR0 : RS (z10.setCell ⟨g, 8, none⟩ (.int .i64 n8)) (w.heap.size + 1) _ := RS.setBlk (i := 8) (v := .int .i64 n8) hrs X (noU8_zn _ _ _ _ _ _ _ _ _) (by omega)
          have SX0 : Whl (z10.setCell ⟨g, 8, none⟩ (.int .i64 n8)) g 39 #[.int .i64 n0, .string t1, .string t2, .int .i64 n3, .int .i64 n4, .int .i64 n5, .int .i64 n6, .string t7, .int .i64 n8] := Whl.set X 8 (.int .i64 n8)
          have SD0 : DT (w.heap.size + 1) G k s3 ver nxt w2 (z10.setCell ⟨g, 8, none⟩ (.int .i64 n8)) _ _ := D.box hgx hNB 8 (.int .i64 n8)
          have HSe : Hid (RS (z10.setCell ⟨g, 8, none⟩ (.int .i64 n8)) (w.heap.size + 1) (znE s)) := Lib.hid SR0
          have hzq : Hid (z10.heap.size = (z10.setCell ⟨g, 8, none⟩ (.int .i64 n8)).heap.size) := Lib.hid (by simp [World.setCell])
          have HX8 := Lib.hid SX0
          have HD8 := Lib.hid SD0
          clear X D hrs ht hn8 HSd SR0 SX0 SD0
          obtain ⟨z11, hz11⟩ : ∃ x, x = (z10.setCell ⟨g, 8, none⟩ (.int .i64 n8)) := ⟨_, rfl⟩
          rw [← hz11] at HSe hzq HX8 HD8
          have HZ11 := Lib.hid hz11
          have D := HD8.out
          have X := HX8.out
          have hz11s := hzq.out
          have HFIN : Hid (∀ (v5 : Value) (x5 : World), x5.ownsRow w2.heap.size 39 9 v5 (k + 1) (flatZ (zL k s3) ++ znV ⟨n0, t1, t2, n3, n4, n5, n6, t7, n8⟩) → Touch (fun q => (Value.slice Av nv cv9).ownBlock = some q) (z11.alloc (.cells #[.int .i64 n0, .string t1, .string t2, .int .i64 n3, .int .i64 n4, .int .i64 n5, .int .i64 n6, .string t7, .int .i64 n8] 39)) x5 → DS (w.heap.size + 1) G (k + 1) (k + 1) s3 ver nxt w2 x5 (.slice Av nv cv9) v5) := Lib.hid (fun v5 x5 ho5 ht5 => by
            have hzn : (⟨n0, t1, t2, n3, n4, n5, n6, t7, n8⟩ : Zn) = znD (zS k s3) := by rw [HSK.out, HN0.out, HN1.out, HN2.out, HN3.out, HN4.out, HN5.out, HN6.out, HN7.out, HN8.out]; rfl
            have h1 : RS z11 (w.heap.size + 1) (zS (k + 1) s3) := by rw [zS, HSK.out]; exact HSe.out
            exact ((HD8.out.ds h1).fresh ((Below.refl _ _).alloc (Nat.le_refl _) (.cells #[.int .i64 n0, .string t1, .string t2, .int .i64 n3, .int .i64 n4, .int .i64 n5, .int .i64 n6, .string t7, .int .i64 n8] 39))).app hzn ho5 ht5)
          have HOWN : Hid ((z11.alloc (.cells #[.int .i64 n0, .string t1, .string t2, .int .i64 n3, .int .i64 n4, .int .i64 n5, .int .i64 n6, .string t7, .int .i64 n8] 39)).ownsRow w2.heap.size 39 9 (.slice Av nv cv9) k (flatZ (zL k s3))) := Lib.hid (D.own.alloc _)
          have HCS : Hid (Cells (z11.alloc (.cells #[.int .i64 n0, .string t1, .string t2, .int .i64 n3, .int .i64 n4, .int .i64 n5, .int .i64 n6, .string t7, .int .i64 n8] 39)) (z11.heap.size + 1) (some ⟨z11.heap.size, 0, none⟩) 1 1 9 (znV ⟨n0, t1, t2, n3, n4, n5, n6, t7, n8⟩)) := Lib.hid ⟨rfl, (fun e => by cases e), fun k u hu => ⟨_, _, rfl, by omega, by rw [Nat.zero_add, (Whl.new (w := z11) (t := 39) (cs := #[.int .i64 n0, .string t1, .string t2, .int .i64 n3, .int .i64 n4, .int .i64 n5, .int .i64 n6, .string t7, .int .i64 n8]) (n := z11.heap.size) rfl).cell]; simpa [znV] using hu⟩⟩
          have hw2z : w2.heap.size ≤ z11.heap.size := D.tou.size
          clear D X
          go_upto_region 12 with fail
          rw [← hz11]
          clear d8 f8
          have D := HD8.out
          have X := HX8.out
          have d0 := X.cell 0
          have d1 := X.cell 1
          have d2 := X.cell 2
          have d3 := X.cell 3
          have d4 := X.cell 4
          have d5 := X.cell 5
          have d6 := X.cell 6
          have d7 := X.cell 7
          have d8 := X.cell 8
          simp only [List.getElem?_toArray, List.getElem?_cons_succ, List.getElem?_cons_zero] at d0 d1 d2 d3 d4 d5 d6 d7 d8
          have m2 := D.g.cell 2
          simp only [List.getElem?_toArray, List.getElem?_cons_succ, List.getElem?_cons_zero] at m2
          clear D X hz11
          go_wp2_with (at_builtin; go_must (refine wpList_append_touch rfl (.tmp 62) (.tmp 64) 31 rfl w2.heap.size 39 i0 _ 9 96 Try.underlying31 hi0 hz0 hz1 hz2 rfl (by decide) (.slice Av nv cv9) k (flatZ (zL k s3)) rfl HOWN.out (z11.heap.size + 1) (some ⟨z11.heap.size, 0, none⟩) 1 1 (znV ⟨n0, t1, t2, n3, n4, n5, n6, t7, n8⟩) rfl HCS.out (fun u hu => flatZ_one [⟨n0, t1, t2, n3, n4, n5, n6, t7, n8⟩] u (by simpa [flatZ] using hu)) (by unfold maxLen; omega) (by omega) (by (try simp); omega) ?_); intro v5 x5 ho5 ht5 hv5; obtain ⟨A5, c5, hv6, _, _, _⟩ := own_slice ho5; subst hv6; have D := HFIN.out _ _ ho5 ht5; have g2 := D.g.cell 2; simp only [List.getElem?_toArray, List.getElem?_cons_succ, List.getElem?_cons_zero] at g2; have gf2 := D.g.free 2; have HD9 := Lib.hid D; clear ho5 ht5 hv5 D)
          exact ⟨⟨k + 1, _, by omega, by go_num, HD9.out.store⟩, measZ hkt⟩
        · have cv := conv_own ho2
          obtain ⟨t2, ht2⟩ : ∃ z : ByteArray, z = strU (nb (nb (nx s).2).2).1 := ⟨_, rfl⟩
          rw [← ht2] at cv
          have HN2 := Lib.hid ht2
          clear ht2
          go_simp
          clear cv ho2
          refine hK.out _ _ trivial (fun hHeld => ?_)
          clear hK K
          (try simp only [Act.put, List.setIfInBounds_toArray, List.set_cons_zero, List.set_cons_succ])
          refine wpAnyH_ready (rs := [2]) (by kernel_rfl) (by simp) ?_
          refine AllReadyH.cons (o := ⟨some 36, _, _, _, _, _⟩) rfl (fun K hK => ?_) AllReadyH.nil
          have cv := conv_own ho1
          obtain ⟨t1, ht1⟩ : ∃ z : ByteArray, z = strU (nb (nx s).2).1 := ⟨_, rfl⟩
          rw [← ht1] at cv
          have HN1 := Lib.hid ht1
          clear ht1
          go_simp
          clear cv ho1
          refine hK.out _ _ trivial (fun hHeld => ?_)
          clear hK K
          (try simp only [Act.put, List.setIfInBounds_toArray, List.set_cons_zero, List.set_cons_succ])
          refine wpAnyH_take (i := 6) (oi := ⟨some 40, _, _, _, _, _⟩) (v := ?v6f_489) rfl (by kernel_rfl) (by kernel_rfl) (by kernel_rfl) (fun _ _ _ h => h) (Or.inl ⟨by rfl, ?y6f_489⟩) (by assumption) ?r6f_489
          case y6f_489 => (intro w hSw; (try dsimp only at hSw); (try go_split_ands); go_simp); (try with_reducible rfl)
          case r6f_489 =>
          (try simp only [Act.put, List.setIfInBounds_toArray, List.set_cons_zero, List.set_cons_succ])
          refine wpAnyH_take (i := 7) (oi := ⟨some 41, _, _, _, _, _⟩) (v := ?v7f_492) rfl (by kernel_rfl) (by kernel_rfl) (by kernel_rfl) (fun _ _ _ h => h) (Or.inl ⟨by rfl, ?y7f_492⟩) (by assumption) ?r7f_492
          case y7f_492 => (intro w hSw; (try dsimp only at hSw); (try go_split_ands); go_simp); (try with_reducible rfl)
          case r7f_492 =>
          (try simp only [Act.put, List.setIfInBounds_toArray, List.set_cons_zero, List.set_cons_succ])
          refine wpAnyH_ready (rs := [8]) (by kernel_rfl) (by simp) ?_
          refine AllReadyH.cons (o := ⟨none, _, _, _, _, _⟩) rfl (fun K hK => ?_) AllReadyH.nil
          have d1 := X.cell 1
          have d2 := X.cell 2
          simp only [List.getElem?_toArray, List.getElem?_cons_succ, List.getElem?_cons_zero] at d1 d2
          have f1 := X.free 1
          have f2 := X.free 2
          go_simp
          clear d1 d2 f1 f2
          refine hK.out _ _ trivial (fun hHeld => ?_)
          clear hK K
          (try simp only [Act.put, List.setIfInBounds_toArray, List.set_cons_zero, List.set_cons_succ])
          refine wpAnyH_done (by kernel_rfl) ?_ _
          have SR0 : RS (y2.setCell ⟨g, 1, none⟩ (.string t1)) (w.heap.size + 1) _ := RS.setBlk (i := 1) (v := .string t1) HS4.out X (noU8_zn _ _ _ _ _ _ _ _ _) (by omega)
          have SX0 : Whl (y2.setCell ⟨g, 1, none⟩ (.string t1)) g 39 #[.int .i64 n0, .string t1, .string ⟨#[]⟩, .int .i64 0, .int .i64 0, .int .i64 0, .int .i64 0, .string ⟨#[]⟩, .int .i64 0] := Whl.set X 1 (.string t1)
          have SD0 : DT (w.heap.size + 1) G k s3 ver nxt w2 (y2.setCell ⟨g, 1, none⟩ (.string t1)) _ _ := D.box hgx hNB 1 (.string t1)
          have SR1 : RS ((y2.setCell ⟨g, 1, none⟩ (.string t1)).setCell ⟨g, 2, none⟩ (.string t2)) (w.heap.size + 1) _ := RS.setBlk (i := 2) (v := .string t2) SR0 SX0 (noU8_zn _ _ _ _ _ _ _ _ _) (by omega)
          have SX1 : Whl ((y2.setCell ⟨g, 1, none⟩ (.string t1)).setCell ⟨g, 2, none⟩ (.string t2)) g 39 #[.int .i64 n0, .string t1, .string t2, .int .i64 0, .int .i64 0, .int .i64 0, .int .i64 0, .string ⟨#[]⟩, .int .i64 0] := Whl.set SX0 2 (.string t2)
          have SD1 : DT (w.heap.size + 1) G k s3 ver nxt w2 ((y2.setCell ⟨g, 1, none⟩ (.string t1)).setCell ⟨g, 2, none⟩ (.string t2)) _ _ := SD0.box hgx hNB 2 (.string t2)
          have HSa := Lib.hid SR1
          have hzq : Hid (y2.heap.size = ((y2.setCell ⟨g, 1, none⟩ (.string t1)).setCell ⟨g, 2, none⟩ (.string t2)).heap.size) := Lib.hid (by simp [World.setCell])
          clear X D HS4
          go_wp2_with fail
          generalize ((y2.setCell ⟨g, 1, none⟩ (.string t1)).setCell ⟨g, 2, none⟩ (.string t2)) = z0 at *
          have X := SX1
          have D := SD1
          have hzz0 := hzq.out
          clear SR0 SR1 SX0 SX1 SD0 SD1 hzq
          refine (rfNxT (w.heap.size + 1) (zn1 s) _ HSa.out).mono ?_
          rintro e z3 ⟨rfl, hrs, ht⟩
          have hq3 := ht.size
          replace D := D.tch ht
          replace X := X.tch ht (by omega)
          obtain ⟨n3, hn3⟩ : ∃ z : Int, z = ((nx (zn1 s)).1 : Int) := ⟨_, rfl⟩
          rw [← hn3]
          have HN3 := Lib.hid hn3
          have HSb3 : Hid (RS z3 (w.heap.size + 1) (nx (zn1 s)).2) := Lib.hid hrs
          clear hn3 hrs ht HSa
          go_wp2_with fail
          refine (rfNxT (w.heap.size + 1) (nx (zn1 s)).2 _ HSb3.out).mono ?_
          rintro e z4 ⟨rfl, hrs, ht⟩
          have hq4 := ht.size
          replace D := D.tch ht
          replace X := X.tch ht (by omega)
          obtain ⟨n4, hn4⟩ : ∃ z : Int, z = ((nx (nx (zn1 s)).2).1 : Int) := ⟨_, rfl⟩
          rw [← hn4]
          have HN4 := Lib.hid hn4
          have HSb4 : Hid (RS z4 (w.heap.size + 1) (nx (nx (zn1 s)).2).2) := Lib.hid hrs
          clear hn4 hrs ht HSb3
          go_wp2_with fail
          refine (rfNxT (w.heap.size + 1) (nx (nx (zn1 s)).2).2 _ HSb4.out).mono ?_
          rintro e z5 ⟨rfl, hrs, ht⟩
          have hq5 := ht.size
          replace D := D.tch ht
          replace X := X.tch ht (by omega)
          obtain ⟨n5, hn5⟩ : ∃ z : Int, z = ((nx (nx (nx (zn1 s)).2).2).1 : Int) := ⟨_, rfl⟩
          rw [← hn5]
          have HN5 := Lib.hid hn5
          have HSb5 : Hid (RS z5 (w.heap.size + 1) (nx (nx (nx (zn1 s)).2).2).2) := Lib.hid hrs
          clear hn5 hrs ht HSb4
          go_wp2_with fail
          refine (rfNxT (w.heap.size + 1) (nx (nx (nx (zn1 s)).2).2).2 _ HSb5.out).mono ?_
          rintro e z6 ⟨rfl, hrs, ht⟩
          have hq6 := ht.size
          replace D := D.tch ht
          replace X := X.tch ht (by omega)
          obtain ⟨n6, hn6⟩ : ∃ z : Int, z = ((nx (nx (nx (nx (zn1 s)).2).2).2).1 : Int) := ⟨_, rfl⟩
          rw [← hn6]
          have HN6 := Lib.hid hn6
          have HSb6 : Hid (RS z6 (w.heap.size + 1) (zn2 (zn1 s))) := Lib.hid hrs
          clear hn6 hrs ht HSb5
          have d3 := X.cell 3
          have d4 := X.cell 4
          have d5 := X.cell 5
          have d6 := X.cell 6
          simp only [List.getElem?_toArray, List.getElem?_cons_succ, List.getElem?_cons_zero] at d3 d4 d5 d6
          have f3 := X.free 3
          have f4 := X.free 4
          have f5 := X.free 5
          have f6 := X.free 6
          have SR0 : RS (z6.setCell ⟨g, 3, none⟩ (.int .i64 n3)) (w.heap.size + 1) _ := RS.setBlk (i := 3) (v := .int .i64 n3) HSb6.out X (noU8_zn _ _ _ _ _ _ _ _ _) (by omega)
          have SX0 : Whl (z6.setCell ⟨g, 3, none⟩ (.int .i64 n3)) g 39 #[.int .i64 n0, .string t1, .string t2, .int .i64 n3, .int .i64 0, .int .i64 0, .int .i64 0, .string ⟨#[]⟩, .int .i64 0] := Whl.set X 3 (.int .i64 n3)
          have SD0 : DT (w.heap.size + 1) G k s3 ver nxt w2 (z6.setCell ⟨g, 3, none⟩ (.int .i64 n3)) _ _ := D.box hgx hNB 3 (.int .i64 n3)
          have SR1 : RS ((z6.setCell ⟨g, 3, none⟩ (.int .i64 n3)).setCell ⟨g, 4, none⟩ (.int .i64 n4)) (w.heap.size + 1) _ := RS.setBlk (i := 4) (v := .int .i64 n4) SR0 SX0 (noU8_zn _ _ _ _ _ _ _ _ _) (by omega)
          have SX1 : Whl ((z6.setCell ⟨g, 3, none⟩ (.int .i64 n3)).setCell ⟨g, 4, none⟩ (.int .i64 n4)) g 39 #[.int .i64 n0, .string t1, .string t2, .int .i64 n3, .int .i64 n4, .int .i64 0, .int .i64 0, .string ⟨#[]⟩, .int .i64 0] := Whl.set SX0 4 (.int .i64 n4)
          have SD1 : DT (w.heap.size + 1) G k s3 ver nxt w2 ((z6.setCell ⟨g, 3, none⟩ (.int .i64 n3)).setCell ⟨g, 4, none⟩ (.int .i64 n4)) _ _ := SD0.box hgx hNB 4 (.int .i64 n4)
          have SR2 : RS (((z6.setCell ⟨g, 3, none⟩ (.int .i64 n3)).setCell ⟨g, 4, none⟩ (.int .i64 n4)).setCell ⟨g, 5, none⟩ (.int .i64 n5)) (w.heap.size + 1) _ := RS.setBlk (i := 5) (v := .int .i64 n5) SR1 SX1 (noU8_zn _ _ _ _ _ _ _ _ _) (by omega)
          have SX2 : Whl (((z6.setCell ⟨g, 3, none⟩ (.int .i64 n3)).setCell ⟨g, 4, none⟩ (.int .i64 n4)).setCell ⟨g, 5, none⟩ (.int .i64 n5)) g 39 #[.int .i64 n0, .string t1, .string t2, .int .i64 n3, .int .i64 n4, .int .i64 n5, .int .i64 0, .string ⟨#[]⟩, .int .i64 0] := Whl.set SX1 5 (.int .i64 n5)
          have SD2 : DT (w.heap.size + 1) G k s3 ver nxt w2 (((z6.setCell ⟨g, 3, none⟩ (.int .i64 n3)).setCell ⟨g, 4, none⟩ (.int .i64 n4)).setCell ⟨g, 5, none⟩ (.int .i64 n5)) _ _ := SD1.box hgx hNB 5 (.int .i64 n5)
          have SR3 : RS ((((z6.setCell ⟨g, 3, none⟩ (.int .i64 n3)).setCell ⟨g, 4, none⟩ (.int .i64 n4)).setCell ⟨g, 5, none⟩ (.int .i64 n5)).setCell ⟨g, 6, none⟩ (.int .i64 n6)) (w.heap.size + 1) _ := RS.setBlk (i := 6) (v := .int .i64 n6) SR2 SX2 (noU8_zn _ _ _ _ _ _ _ _ _) (by omega)
          have SX3 : Whl ((((z6.setCell ⟨g, 3, none⟩ (.int .i64 n3)).setCell ⟨g, 4, none⟩ (.int .i64 n4)).setCell ⟨g, 5, none⟩ (.int .i64 n5)).setCell ⟨g, 6, none⟩ (.int .i64 n6)) g 39 #[.int .i64 n0, .string t1, .string t2, .int .i64 n3, .int .i64 n4, .int .i64 n5, .int .i64 n6, .string ⟨#[]⟩, .int .i64 0] := Whl.set SX2 6 (.int .i64 n6)
          have SD3 : DT (w.heap.size + 1) G k s3 ver nxt w2 ((((z6.setCell ⟨g, 3, none⟩ (.int .i64 n3)).setCell ⟨g, 4, none⟩ (.int .i64 n4)).setCell ⟨g, 5, none⟩ (.int .i64 n5)).setCell ⟨g, 6, none⟩ (.int .i64 n6)) _ _ := SD2.box hgx hNB 6 (.int .i64 n6)
          have HSc := Lib.hid SR3
          have hzq : Hid (z6.heap.size = ((((z6.setCell ⟨g, 3, none⟩ (.int .i64 n3)).setCell ⟨g, 4, none⟩ (.int .i64 n4)).setCell ⟨g, 5, none⟩ (.int .i64 n5)).setCell ⟨g, 6, none⟩ (.int .i64 n6)).heap.size) := Lib.hid (by simp [World.setCell])
          clear X D HSb6
          go_wp2_with fail
          generalize ((((z6.setCell ⟨g, 3, none⟩ (.int .i64 n3)).setCell ⟨g, 4, none⟩ (.int .i64 n4)).setCell ⟨g, 5, none⟩ (.int .i64 n5)).setCell ⟨g, 6, none⟩ (.int .i64 n6)) = z7 at *
          have X := SX3
          have D := SD3
          have hz7 := hzq.out
          clear SR0 SX0 SD0 SR1 SX1 SD1 SR2 SX2 SD2 SR3 SX3 SD3 hzq d3 f3 d4 f4 d5 f5 d6 f6
          refine (rfNb (w.heap.size + 1) (zn2 (zn1 s)) _ HSc.out).mono ?_
          rintro e z8 ⟨v7, rfl, ho7, hrs, ht⟩
          have hq8 := ht.size
          replace D := D.tch ht
          replace X := X.tch ht (by omega)
          have cv := conv_own ho7
          obtain ⟨t7, ht7⟩ : ∃ z : ByteArray, z = strU (nb (zn2 (zn1 s))).1 := ⟨_, rfl⟩
          rw [← ht7] at cv
          have HN7 := Lib.hid ht7
          clear ht7
          have d7 := X.cell 7
          simp only [List.getElem?_toArray, List.getElem?_cons_succ, List.getElem?_cons_zero] at d7
          have f7 := X.free 7
          have SR0 : RS (z8.setCell ⟨g, 7, none⟩ (.string t7)) (w.heap.size + 1) _ := RS.setBlk (i := 7) (v := .string t7) hrs X (noU8_zn _ _ _ _ _ _ _ _ _) (by omega)
          have SX0 : Whl (z8.setCell ⟨g, 7, none⟩ (.string t7)) g 39 #[.int .i64 n0, .string t1, .string t2, .int .i64 n3, .int .i64 n4, .int .i64 n5, .int .i64 n6, .string t7, .int .i64 0] := Whl.set X 7 (.string t7)
          have SD0 : DT (w.heap.size + 1) G k s3 ver nxt w2 (z8.setCell ⟨g, 7, none⟩ (.string t7)) _ _ := D.box hgx hNB 7 (.string t7)
          have HSd : Hid (RS (z8.setCell ⟨g, 7, none⟩ (.string t7)) (w.heap.size + 1) (nb (zn2 (zn1 s))).2) := Lib.hid SR0
          have hzq : Hid (z8.heap.size = (z8.setCell ⟨g, 7, none⟩ (.string t7)).heap.size) := Lib.hid (by simp [World.setCell])
          clear X D hrs ht ho7 HSc
          go_wp2_with fail
          generalize (z8.setCell ⟨g, 7, none⟩ (.string t7)) = z9 at *
          have X := SX0
          have D := SD0
          have hz9 := hzq.out
          clear SR0 SX0 SD0 hzq d7 f7 cv
          refine (rfNxT (w.heap.size + 1) (nb (zn2 (zn1 s))).2 _ HSd.out).mono ?_
          rintro e z10 ⟨rfl, hrs, ht⟩
          have hq10 := ht.size
          replace D := D.tch ht
          replace X := X.tch ht (by omega)
          obtain ⟨n8, hn8⟩ : ∃ z : Int, z = ((nx (nb (zn2 (zn1 s))).2).1 : Int) := ⟨_, rfl⟩
          rw [← hn8]
          have HN8 := Lib.hid hn8
          have d8 := X.cell 8
          simp only [List.getElem?_toArray, List.getElem?_cons_succ, List.getElem?_cons_zero] at d8
          have f8 := X.free 8
          have SR0 : RS (z10.setCell ⟨g, 8, none⟩ (.int .i64 n8)) (w.heap.size + 1) _ := RS.setBlk (i := 8) (v := .int .i64 n8) hrs X (noU8_zn _ _ _ _ _ _ _ _ _) (by omega)
          have SX0 : Whl (z10.setCell ⟨g, 8, none⟩ (.int .i64 n8)) g 39 #[.int .i64 n0, .string t1, .string t2, .int .i64 n3, .int .i64 n4, .int .i64 n5, .int .i64 n6, .string t7, .int .i64 n8] := Whl.set X 8 (.int .i64 n8)
          have SD0 : DT (w.heap.size + 1) G k s3 ver nxt w2 (z10.setCell ⟨g, 8, none⟩ (.int .i64 n8)) _ _ := D.box hgx hNB 8 (.int .i64 n8)
          have HSe : Hid (RS (z10.setCell ⟨g, 8, none⟩ (.int .i64 n8)) (w.heap.size + 1) (znE s)) := Lib.hid SR0
          have hzq : Hid (z10.heap.size = (z10.setCell ⟨g, 8, none⟩ (.int .i64 n8)).heap.size) := Lib.hid (by simp [World.setCell])
          have HX8 := Lib.hid SX0
          have HD8 := Lib.hid SD0
          clear X D hrs ht hn8 HSd SR0 SX0 SD0
          obtain ⟨z11, hz11⟩ : ∃ x, x = (z10.setCell ⟨g, 8, none⟩ (.int .i64 n8)) := ⟨_, rfl⟩
          rw [← hz11] at HSe hzq HX8 HD8
          have HZ11 := Lib.hid hz11
          have D := HD8.out
          have X := HX8.out
          have hz11s := hzq.out
          have HFIN : Hid (∀ (v5 : Value) (x5 : World), x5.ownsRow w2.heap.size 39 9 v5 (k + 1) (flatZ (zL k s3) ++ znV ⟨n0, t1, t2, n3, n4, n5, n6, t7, n8⟩) → Touch (fun q => (Value.slice Av nv cv9).ownBlock = some q) (z11.alloc (.cells #[.int .i64 n0, .string t1, .string t2, .int .i64 n3, .int .i64 n4, .int .i64 n5, .int .i64 n6, .string t7, .int .i64 n8] 39)) x5 → DS (w.heap.size + 1) G (k + 1) (k + 1) s3 ver nxt w2 x5 (.slice Av nv cv9) v5) := Lib.hid (fun v5 x5 ho5 ht5 => by
            have hzn : (⟨n0, t1, t2, n3, n4, n5, n6, t7, n8⟩ : Zn) = znD (zS k s3) := by rw [HSK.out, HN0.out, HN1.out, HN2.out, HN3.out, HN4.out, HN5.out, HN6.out, HN7.out, HN8.out]; rfl
            have h1 : RS z11 (w.heap.size + 1) (zS (k + 1) s3) := by rw [zS, HSK.out]; exact HSe.out
            exact ((HD8.out.ds h1).fresh ((Below.refl _ _).alloc (Nat.le_refl _) (.cells #[.int .i64 n0, .string t1, .string t2, .int .i64 n3, .int .i64 n4, .int .i64 n5, .int .i64 n6, .string t7, .int .i64 n8] 39))).app hzn ho5 ht5)
          have HOWN : Hid ((z11.alloc (.cells #[.int .i64 n0, .string t1, .string t2, .int .i64 n3, .int .i64 n4, .int .i64 n5, .int .i64 n6, .string t7, .int .i64 n8] 39)).ownsRow w2.heap.size 39 9 (.slice Av nv cv9) k (flatZ (zL k s3))) := Lib.hid (D.own.alloc _)
          have HCS : Hid (Cells (z11.alloc (.cells #[.int .i64 n0, .string t1, .string t2, .int .i64 n3, .int .i64 n4, .int .i64 n5, .int .i64 n6, .string t7, .int .i64 n8] 39)) (z11.heap.size + 1) (some ⟨z11.heap.size, 0, none⟩) 1 1 9 (znV ⟨n0, t1, t2, n3, n4, n5, n6, t7, n8⟩)) := Lib.hid ⟨rfl, (fun e => by cases e), fun k u hu => ⟨_, _, rfl, by omega, by rw [Nat.zero_add, (Whl.new (w := z11) (t := 39) (cs := #[.int .i64 n0, .string t1, .string t2, .int .i64 n3, .int .i64 n4, .int .i64 n5, .int .i64 n6, .string t7, .int .i64 n8]) (n := z11.heap.size) rfl).cell]; simpa [znV] using hu⟩⟩
          have hw2z : w2.heap.size ≤ z11.heap.size := D.tou.size
          clear D X
          go_upto_region 12 with fail
          rw [← hz11]
          clear d8 f8
          have D := HD8.out
          have X := HX8.out
          have d0 := X.cell 0
          have d1 := X.cell 1
          have d2 := X.cell 2
          have d3 := X.cell 3
          have d4 := X.cell 4
          have d5 := X.cell 5
          have d6 := X.cell 6
          have d7 := X.cell 7
          have d8 := X.cell 8
          simp only [List.getElem?_toArray, List.getElem?_cons_succ, List.getElem?_cons_zero] at d0 d1 d2 d3 d4 d5 d6 d7 d8
          have m2 := D.g.cell 2
          simp only [List.getElem?_toArray, List.getElem?_cons_succ, List.getElem?_cons_zero] at m2
          clear D X hz11
          go_wp2_with (at_builtin; go_must (refine wpList_append_touch rfl (.tmp 62) (.tmp 64) 31 rfl w2.heap.size 39 i0 _ 9 96 Try.underlying31 hi0 hz0 hz1 hz2 rfl (by decide) (.slice Av nv cv9) k (flatZ (zL k s3)) rfl HOWN.out (z11.heap.size + 1) (some ⟨z11.heap.size, 0, none⟩) 1 1 (znV ⟨n0, t1, t2, n3, n4, n5, n6, t7, n8⟩) rfl HCS.out (fun u hu => flatZ_one [⟨n0, t1, t2, n3, n4, n5, n6, t7, n8⟩] u (by simpa [flatZ] using hu)) (by unfold maxLen; omega) (by omega) (by (try simp); omega) ?_); intro v5 x5 ho5 ht5 hv5; obtain ⟨A5, c5, hv6, _, _, _⟩ := own_slice ho5; subst hv6; have D := HFIN.out _ _ ho5 ht5; have g2 := D.g.cell 2; simp only [List.getElem?_toArray, List.getElem?_cons_succ, List.getElem?_cons_zero] at g2; have gf2 := D.g.free 2; have HD9 := Lib.hid D; clear ho5 ht5 hv5 D)
          exact ⟨⟨k + 1, _, by omega, by go_num, HD9.out.store⟩, measZ hkt⟩
    · obtain rfl : n = k := by omega
      have R := HR.out.tou D.tou (by omega)
      have BB : Below w.heap.size w wr := HB0.out.trans (D.tou.below (by omega) (by omega))
      have hs3 := HS3.out
      have hn2 := HN2.out
      clear hsk hfl
      subst hs3
      subst hn2
      have HD := Lib.hid D
      obtain ⟨A9, n9, c9, hv9⟩ : ∃ A n c, v = .slice A n c := by obtain ⟨A, c, h, _⟩ := own_slice D.own; exact ⟨A, _, c, h⟩
      subst hv9
      clear D
      go_wp2_with fail
      refine (rfAll _ _ _ HD.out.rs).mono ?_
      rintro e w5 ⟨rfl, rfl⟩
      cases hall : allOf (zS (mN (some xs)) (mS (some xs)))
      · have hno : mOk (some xs) = false := by unfold mOk; rw [hall]; rfl
        have r0 := R.cell 0
        have r1 := R.cell 1
        have r2 := R.cell 2
        simp only [List.getElem?_toArray, List.getElem?_cons_succ, List.getElem?_cons_zero] at r0 r1 r2
        have f0 := R.free 0
        have f1 := R.free 1
        have f2 := R.free 2
        have HRR := Lib.hid R
        clear R
        go_wp2_with fail
        have R := HRR.out
        clear r0 f0 r1 f1 r2 f2
        have RF0 : Whl (wr.setCell ⟨w.heap.size, 0, none⟩ (.int .i64 0)) w.heap.size 33 #[.int .i64 0, .int .i64 0, .slice none 0 0] := Whl.set R 0 (.int .i64 0)
        have BF0 : Below w.heap.size w (wr.setCell ⟨w.heap.size, 0, none⟩ (.int .i64 0)) := BB.setCell (Nat.le_refl _) _
        have TF0 : Touch (fun q => q = w.heap.size) wr (wr.setCell ⟨w.heap.size, 0, none⟩ (.int .i64 0)) := (Touch.refl (fun q => q = w.heap.size) wr).set (fun _ => rfl)
        have RF1 : Whl ((wr.setCell ⟨w.heap.size, 0, none⟩ (.int .i64 0)).setCell ⟨w.heap.size, 1, none⟩ (.int .i64 0)) w.heap.size 33 #[.int .i64 0, .int .i64 0, .slice none 0 0] := Whl.set RF0 1 (.int .i64 0)
        have BF1 : Below w.heap.size w ((wr.setCell ⟨w.heap.size, 0, none⟩ (.int .i64 0)).setCell ⟨w.heap.size, 1, none⟩ (.int .i64 0)) := BF0.setCell (Nat.le_refl _) _
        have TF1 : Touch (fun q => q = w.heap.size) wr ((wr.setCell ⟨w.heap.size, 0, none⟩ (.int .i64 0)).setCell ⟨w.heap.size, 1, none⟩ (.int .i64 0)) := TF0.set (fun _ => rfl)
        have RF2 : Whl (((wr.setCell ⟨w.heap.size, 0, none⟩ (.int .i64 0)).setCell ⟨w.heap.size, 1, none⟩ (.int .i64 0)).setCell ⟨w.heap.size, 2, none⟩ (.slice none 0 0)) w.heap.size 33 #[.int .i64 0, .int .i64 0, .slice none 0 0] := Whl.set RF1 2 (.slice none 0 0)
        have BF2 : Below w.heap.size w (((wr.setCell ⟨w.heap.size, 0, none⟩ (.int .i64 0)).setCell ⟨w.heap.size, 1, none⟩ (.int .i64 0)).setCell ⟨w.heap.size, 2, none⟩ (.slice none 0 0)) := BF1.setCell (Nat.le_refl _) _
        have TF2 : Touch (fun q => q = w.heap.size) wr (((wr.setCell ⟨w.heap.size, 0, none⟩ (.int .i64 0)).setCell ⟨w.heap.size, 1, none⟩ (.int .i64 0)).setCell ⟨w.heap.size, 2, none⟩ (.slice none 0 0)) := TF1.set (fun _ => rfl)
        have hTF := TF2
        clear RF0 RF1 BF0 BF1 TF0 TF1 TF2 R HRR
        generalize (((wr.setCell ⟨w.heap.size, 0, none⟩ (.int .i64 0)).setCell ⟨w.heap.size, 1, none⟩ (.int .i64 0)).setCell ⟨w.heap.size, 2, none⟩ (.slice none 0 0)) = Y at *
        have q0 := RF2.cell 0
        have q1 := RF2.cell 1
        have q2 := RF2.cell 2
        simp only [List.getElem?_toArray, List.getElem?_cons_succ, List.getElem?_cons_zero] at q0 q1 q2
        refine bodyPost_ret (v := .tuple #[.agg #[.int .i64 0, .int .i64 0, .slice none 0 0], .int .i64 3]) (by simp [results, Try.results22, go_sem, ↓IntWalk.iteOmega, *]) rfl ⟨⟨fun h => absurd h (by rw [hno]; decide), fun _ => rfl⟩, BF2⟩
      · have HALL := Lib.hid hall
        have D := HD.out
        have d0 := D.g.cell 0
        have d1 := D.g.cell 1
        have d2 := D.g.cell 2
        simp only [List.getElem?_toArray, List.getElem?_cons_succ, List.getElem?_cons_zero] at d0 d1 d2
        clear D
        go_wp2_with fail
        clear d0 d1 d2
        have hown := HD.out.own
        have hm : mD (some xs) = ⟨ver, nxt, zL (mN (some xs)) (mS (some xs))⟩ := by rw [HV.out, HNX.out]; rfl
        have hl : (mD (some xs)).zs.length = mN (some xs) := by rw [hm]; exact zL_len _ _
        have hown2 : wr.ownsRow w2.heap.size 39 9 (.slice A9 n9 c9) (mD (some xs)).zs.length (flatZ (mD (some xs)).zs) := by rw [hl, hm]; exact hown
        have HOW := Lib.hid hown2
        have hmk : mOk (some xs) = mayB (mD (some xs)) := by unfold mOk; rw [HALL.out]; rfl
        have HMK := Lib.hid hmk
        have HMD := Lib.hid hm
        have hle : (mD (some xs)).zs.length ≤ 1000 := by
          rw [hl]
          cases hq : zS (mN (some xs)) (mS (some xs)) with
          | none => rw [hq] at hall; cases hall
          | some r =>
            obtain ⟨r1, h1, l1⟩ := zS_lt _ hq
            have h2 := mS_le h1
            omega
        have hcall := rdMayX _ (.slice A9 n9 c9) (mD (some xs)) wr hown2 hle (mayB_iff _)
        have e1 : (mD (some xs)).ver = ver := by rw [hm]
        have e2 : (mD (some xs)).nxt = nxt := by rw [hm]
        rw [e1, e2] at hcall
        have HE1 := Lib.hid e1
        have HE2 := Lib.hid e2
        clear hown hown2 hm hl hmk hle e1 e2
        refine hcall.mono ?_
        clear hcall
        rintro e w6 ⟨rfl, hb6⟩
        have hs6 := hb6.size
        have B8 : Below w.heap.size w w6 := BB.trans (hb6.mono (by omega))
        replace R := R.below hb6 R.low
        have D := HD.out.fresh hb6
        cases hp : mayB (mD (some xs))
        · have hno : mOk (some xs) = false := by rw [HMK.out, hp]
          clear D
          have r0 := R.cell 0
          have r1 := R.cell 1
          have r2 := R.cell 2
          simp only [List.getElem?_toArray, List.getElem?_cons_succ, List.getElem?_cons_zero] at r0 r1 r2
          have f0 := R.free 0
          have f1 := R.free 1
          have f2 := R.free 2
          have HRR := Lib.hid R
          clear R
          go_wp2_with fail
          have R := HRR.out
          clear r0 f0 r1 f1 r2 f2
          have RF0 : Whl (w6.setCell ⟨w.heap.size, 0, none⟩ (.int .i64 0)) w.heap.size 33 #[.int .i64 0, .int .i64 0, .slice none 0 0] := Whl.set R 0 (.int .i64 0)
          have BF0 : Below w.heap.size w (w6.setCell ⟨w.heap.size, 0, none⟩ (.int .i64 0)) := B8.setCell (Nat.le_refl _) _
          have TF0 : Touch (fun q => q = w.heap.size) w6 (w6.setCell ⟨w.heap.size, 0, none⟩ (.int .i64 0)) := (Touch.refl (fun q => q = w.heap.size) w6).set (fun _ => rfl)
          have RF1 : Whl ((w6.setCell ⟨w.heap.size, 0, none⟩ (.int .i64 0)).setCell ⟨w.heap.size, 1, none⟩ (.int .i64 0)) w.heap.size 33 #[.int .i64 0, .int .i64 0, .slice none 0 0] := Whl.set RF0 1 (.int .i64 0)
          have BF1 : Below w.heap.size w ((w6.setCell ⟨w.heap.size, 0, none⟩ (.int .i64 0)).setCell ⟨w.heap.size, 1, none⟩ (.int .i64 0)) := BF0.setCell (Nat.le_refl _) _
          have TF1 : Touch (fun q => q = w.heap.size) w6 ((w6.setCell ⟨w.heap.size, 0, none⟩ (.int .i64 0)).setCell ⟨w.heap.size, 1, none⟩ (.int .i64 0)) := TF0.set (fun _ => rfl)
          have RF2 : Whl (((w6.setCell ⟨w.heap.size, 0, none⟩ (.int .i64 0)).setCell ⟨w.heap.size, 1, none⟩ (.int .i64 0)).setCell ⟨w.heap.size, 2, none⟩ (.slice none 0 0)) w.heap.size 33 #[.int .i64 0, .int .i64 0, .slice none 0 0] := Whl.set RF1 2 (.slice none 0 0)
          have BF2 : Below w.heap.size w (((w6.setCell ⟨w.heap.size, 0, none⟩ (.int .i64 0)).setCell ⟨w.heap.size, 1, none⟩ (.int .i64 0)).setCell ⟨w.heap.size, 2, none⟩ (.slice none 0 0)) := BF1.setCell (Nat.le_refl _) _
          have TF2 : Touch (fun q => q = w.heap.size) w6 (((w6.setCell ⟨w.heap.size, 0, none⟩ (.int .i64 0)).setCell ⟨w.heap.size, 1, none⟩ (.int .i64 0)).setCell ⟨w.heap.size, 2, none⟩ (.slice none 0 0)) := TF1.set (fun _ => rfl)
          have hTF := TF2
          clear RF0 RF1 BF0 BF1 TF0 TF1 TF2 R HRR
          generalize (((w6.setCell ⟨w.heap.size, 0, none⟩ (.int .i64 0)).setCell ⟨w.heap.size, 1, none⟩ (.int .i64 0)).setCell ⟨w.heap.size, 2, none⟩ (.slice none 0 0)) = Y at *
          have q0 := RF2.cell 0
          have q1 := RF2.cell 1
          have q2 := RF2.cell 2
          simp only [List.getElem?_toArray, List.getElem?_cons_succ, List.getElem?_cons_zero] at q0 q1 q2
          refine bodyPost_ret (v := .tuple #[.agg #[.int .i64 0, .int .i64 0, .slice none 0 0], .int .i64 3]) (by simp [results, Try.results22, go_sem, ↓IntWalk.iteOmega, *]) rfl ⟨⟨fun h => absurd h (by rw [hno]; decide), fun _ => rfl⟩, BF2⟩
        · have hyes : mOk (some xs) = true := by rw [HMK.out, hp]
          have HOW6 := Lib.hid (row_below HOW.out hb6)
          have d0 := D.g.cell 0
          have d1 := D.g.cell 1
          have d2 := D.g.cell 2
          simp only [List.getElem?_toArray, List.getElem?_cons_succ, List.getElem?_cons_zero] at d0 d1 d2
          clear D
          have r0 := R.cell 0
          have r1 := R.cell 1
          have r2 := R.cell 2
          simp only [List.getElem?_toArray, List.getElem?_cons_succ, List.getElem?_cons_zero] at r0 r1 r2
          have f0 := R.free 0
          have f1 := R.free 1
          have f2 := R.free 2
          have HRR := Lib.hid R
          clear R
          go_wp2_with fail
          have R := HRR.out
          clear r0 f0 r1 f1 r2 f2
          have RF0 : Whl (w6.setCell ⟨w.heap.size, 0, none⟩ (.int .i64 ver)) w.heap.size 33 #[.int .i64 ver, .int .i64 0, .slice none 0 0] := Whl.set R 0 (.int .i64 ver)
          have BF0 : Below w.heap.size w (w6.setCell ⟨w.heap.size, 0, none⟩ (.int .i64 ver)) := B8.setCell (Nat.le_refl _) _
          have TF0 : Touch (fun q => q = w.heap.size) w6 (w6.setCell ⟨w.heap.size, 0, none⟩ (.int .i64 ver)) := (Touch.refl (fun q => q = w.heap.size) w6).set (fun _ => rfl)
          have RF1 : Whl ((w6.setCell ⟨w.heap.size, 0, none⟩ (.int .i64 ver)).setCell ⟨w.heap.size, 1, none⟩ (.int .i64 nxt)) w.heap.size 33 #[.int .i64 ver, .int .i64 nxt, .slice none 0 0] := Whl.set RF0 1 (.int .i64 nxt)
          have BF1 : Below w.heap.size w ((w6.setCell ⟨w.heap.size, 0, none⟩ (.int .i64 ver)).setCell ⟨w.heap.size, 1, none⟩ (.int .i64 nxt)) := BF0.setCell (Nat.le_refl _) _
          have TF1 : Touch (fun q => q = w.heap.size) w6 ((w6.setCell ⟨w.heap.size, 0, none⟩ (.int .i64 ver)).setCell ⟨w.heap.size, 1, none⟩ (.int .i64 nxt)) := TF0.set (fun _ => rfl)
          have RF2 : Whl (((w6.setCell ⟨w.heap.size, 0, none⟩ (.int .i64 ver)).setCell ⟨w.heap.size, 1, none⟩ (.int .i64 nxt)).setCell ⟨w.heap.size, 2, none⟩ (.slice A9 n9 c9)) w.heap.size 33 #[.int .i64 ver, .int .i64 nxt, .slice A9 n9 c9] := Whl.set RF1 2 (.slice A9 n9 c9)
          have BF2 : Below w.heap.size w (((w6.setCell ⟨w.heap.size, 0, none⟩ (.int .i64 ver)).setCell ⟨w.heap.size, 1, none⟩ (.int .i64 nxt)).setCell ⟨w.heap.size, 2, none⟩ (.slice A9 n9 c9)) := BF1.setCell (Nat.le_refl _) _
          have TF2 : Touch (fun q => q = w.heap.size) w6 (((w6.setCell ⟨w.heap.size, 0, none⟩ (.int .i64 ver)).setCell ⟨w.heap.size, 1, none⟩ (.int .i64 nxt)).setCell ⟨w.heap.size, 2, none⟩ (.slice A9 n9 c9)) := TF1.set (fun _ => rfl)
          have hTF := TF2
          clear RF0 RF1 BF0 BF1 TF0 TF1 TF2 R HRR
          generalize (((w6.setCell ⟨w.heap.size, 0, none⟩ (.int .i64 ver)).setCell ⟨w.heap.size, 1, none⟩ (.int .i64 nxt)).setCell ⟨w.heap.size, 2, none⟩ (.slice A9 n9 c9)) = Y at *
          have q0 := RF2.cell 0
          have q1 := RF2.cell 1
          have q2 := RF2.cell 2
          simp only [List.getElem?_toArray, List.getElem?_cons_succ, List.getElem?_cons_zero] at q0 q1 q2
          refine bodyPost_ret (v := .tuple #[.agg #[.int .i64 ver, .int .i64 nxt, .slice A9 n9 c9], .int .i64 0]) (by simp [results, Try.results22, go_sem, ↓IntWalk.iteOmega, *]) rfl ⟨⟨fun _ => ⟨.slice A9 n9 c9, by rw [HE1.out, HE2.out], (hTF.own HOW6.out (fun q hq e => by have := (HOW.out.lt q hq).1; omega)).mono (by omega)⟩, fun h => absurd h (by rw [hyes]; decide)⟩, BF2⟩
end Go.Proofs.Ytbohpjinkdffhaa
