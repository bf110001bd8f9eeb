/- Changes and maps come back. The law's heavyMap. -/
import Derived.Test.YtbohpjinkdffhaaProg
import Derived.WalkKit
import Derived.WalkSpells
import Derived.WalkLawsBesides
import Derived.Deep.QuietTactic
import Derived.BigQuiet
import Derived.RegionTactic
import Derived.BigRegion
import Derived.Outline
import Derived.LoopTactic
import Derived.Lib.Hide
import Derived.Deep.RegionHeld3
import Derived.Laws.AppendOwnNone
import Derived.Deep.AppendLies
import Derived.Deep.Light
import Derived.Lib.VarintBits
import Derived.Deep.Heap
import Derived.Maps.AppendAt
import Derived.Laws.Rows
import Derived.IntWalk
import Derived.Lib.ConvBytes
import Derived.Lib.AtoiErrMem
import GoSem.Op.String
import Derived.Lib.Strings
import Derived.Deep.Cut
import Derived.StillTailTactics
import Derived.Deep.Onto
import Derived.Laws.IdiomCopy
import Derived.Lib.AppendZerosOnto
import Derived.Lib.Overlaps
import Derived.Lib.ReflectliteSwap
import Derived.Deep.RegionLaw
import Derived.Deep.DeepCutAuto
import Derived.Laws.EntriesVeiled
import Derived.Lib.SliceRun
import Derived.Laws.BytesArg
import Derived.Test.YtbohpjinkdffhaaDbu0
import Derived.Test.YtbohpjinkdffhaaDbu1
import Derived.Test.YtbohpjinkdffhaaDbu2
import Derived.Test.YtbohpjinkdffhaaDbu3
import Derived.Test.YtbohpjinkdffhaaDbu4
import Derived.Test.YtbohpjinkdffhaaDbu5
import Derived.Test.YtbohpjinkdffhaaDbu6
import Derived.Test.YtbohpjinkdffhaaDbu7
import Derived.Test.YtbohpjinkdffhaaDbu8
import Derived.Test.YtbohpjinkdffhaaDbu9
import Derived.Test.YtbohpjinkdffhaaDbu10
import Derived.Test.YtbohpjinkdffhaaDbu11
import Derived.Test.YtbohpjinkdffhaaDbu12
import Derived.Test.YtbohpjinkdffhaaDbu13
import Derived.Test.YtbohpjinkdffhaaDbu14
import Derived.Test.YtbohpjinkdffhaaDbu15
import Derived.Test.YtbohpjinkdffhaaDbu16
import Derived.Test.YtbohpjinkdffhaaDbu17
import Derived.Test.YtbohpjinkdffhaaDbu18
import Derived.Test.YtbohpjinkdffhaaDbu19
import Derived.Test.YtbohpjinkdffhaaDbu20
import Derived.Test.YtbohpjinkdffhaaDbu21
import Derived.Test.YtbohpjinkdffhaaDbu22
import Derived.Test.YtbohpjinkdffhaaDbu23
import Derived.Test.YtbohpjinkdffhaaDbu24
import Derived.Test.YtbohpjinkdffhaaDbu31
import Derived.Test.YtbohpjinkdffhaaDbu32
import Derived.Test.YtbohpjinkdffhaaDbu34
import Derived.Test.YtbohpjinkdffhaaDbu35
import Derived.Test.YtbohpjinkdffhaaDbu36
import Derived.Test.YtbohpjinkdffhaaDbu37
import Derived.Test.YtbohpjinkdffhaaDbu38
namespace Go.Proofs.Ytbohpjinkdffhaa
open Go.RowKit
set_option linter.unusedVariables false
set_option linter.unusedSimpArgs false
def NumOk (n : Int) : Prop := 0 ≤ n ∧ n ≤ 1099511627776
theorem clamp_val {n : Int} (h : NumOk n) : ((clamp n : Nat) : Int) = n := by
  obtain ⟨h1, h2⟩ := h
  unfold clamp
  omega
theorem nx_cons {n : Int} {l : List Int} {r : List Nat} : nx (some (encs (n :: l) ++ r)) = (clamp n, some (encs l ++ r)) := by
  have e : encs (n :: l) ++ r = enc (clamp n) ++ (encs l ++ r) := by simp [encs, List.append_assoc]
  rw [e]
  exact nx_enc (clamp_le n) _
theorem encs_nil (r : List Nat) : encs [] ++ r = r := by simp [encs]
theorem nb_cons {s : ByteArray} {l : List (List Nat)} {r : List Nat} (h : s.size ≤ 10000) : nb (some (encb (bs s :: l) ++ r)) = (bs s, some (encb l ++ r)) := by
  have e : encb (bs s :: l) ++ r = enc (bs s).length ++ (bs s ++ (encb l ++ r)) := by simp [encb, List.append_assoc]
  rw [e]
  exact nb_enc (by rw [bs_length]; omega) _
theorem encb_nil (r : List Nat) : encb [] ++ r = r := by simp [encb]
theorem ch_back {c : Ch} (h : OkCh c) : chB (some (chBs c)) = true ∧ chD (some (chBs c)) = c := by
  obtain ⟨⟨a1, a2⟩, ⟨b1, b2⟩, ⟨k1, k2⟩, ⟨m1, m2⟩, ⟨e1, e2⟩⟩ := id h
  have hky : c.ky.size ≤ 10000 := by
    by_cases hk : c.kd = 1
    · have := (k1 hk).2; omega
    · have := k2 hk; omega
  have hm : NumOk c.mv := by
    by_cases hk : c.kd = 3
    · have := m1 hk; unfold NumOk; omega
    · have := m2 hk; unfold NumOk; omega
  have he : NumOk c.ep := by
    by_cases hk : c.kd = 4
    · have := e1 (.inl hk); unfold NumOk; omega
    · by_cases hk5 : c.kd = 5
      · have := e1 (.inr hk5); unfold NumOk; omega
      · have := e2 hk hk5; unfold NumOk; omega
  have hz : NumOk c.zo := by unfold NumOk; omega
  have hk : NumOk c.kd := by unfold NumOk; omega
  have hD : chD (some (chBs c)) = c := by
    unfold chD chBs
    rw [← List.append_nil (encb [bs c.ky])]
    simp only [nx_cons, encs_nil, nb_cons hky, strU_bs, clamp_val hk, clamp_val hz, clamp_val he, clamp_val hm]
  have hE : chE (some (chBs c)) = some [] := by
    unfold chE chBs
    rw [← List.append_nil (encb [bs c.ky])]
    simp only [nx_cons, encs_nil, nb_cons hky, encb_nil]
  refine ⟨?_, hD⟩
  unfold chB
  rw [hE, hD, decide_eq_true h]
  rfl
structure NumZ (z : Zn) : Prop where
  id : NumOk z.id
  ow : NumOk z.ow
  ep : NumOk z.ep
  pd : NumOk z.pd
  mv : NumOk z.mv
  nw : NumOk z.nw
theorem zn_back {z : Zn} (h : NumZ z) (ht : z.fr.size ≤ 200 ∧ z.tt.size ≤ 200 ∧ z.ky.size ≤ 200) (r : List Nat) : znD (some (zBs z ++ r)) = z ∧ znE (some (zBs z ++ r)) = some r := by
  obtain ⟨h1, h2, h3⟩ := ht
  have q1 : z.fr.size ≤ 10000 := by omega
  have q2 : z.tt.size ≤ 10000 := by omega
  have q3 : z.ky.size ≤ 10000 := by omega
  constructor
  · unfold znD zn1 zn2 zBs
    simp only [List.append_assoc, nx_cons, encs_nil, nb_cons q1, nb_cons q2, nb_cons q3, encb_nil, strU_bs, clamp_val h.id, clamp_val h.ow, clamp_val h.ep, clamp_val h.pd, clamp_val h.mv, clamp_val h.nw]
  · unfold znE zn1 zn2 zBs
    simp only [List.append_assoc, nx_cons, encs_nil, nb_cons q1, nb_cons q2, nb_cons q3, encb_nil]
theorem zs_back : ∀ (k : Nat) (l : List Zn), k ≤ l.length → (∀ z ∈ l, NumZ z) → (∀ z ∈ l, z.fr.size ≤ 200 ∧ z.tt.size ≤ 200 ∧ z.ky.size ≤ 200) → zS k (some (zsBs l)) = some (zsBs (l.drop k)) ∧ zL k (some (zsBs l)) = l.take k
  | 0, l, _, _, _ => by simp [zS, zL]
  | k + 1, l, hk, h1, h2 => by
    obtain ⟨a, b⟩ := zs_back k l (by omega) h1 h2
    have hkl : k < l.length := by omega
    have hm : l[k] ∈ l := List.getElem_mem hkl
    have e : zsBs (l.drop k) = zBs l[k] ++ zsBs (l.drop (k + 1)) := by
      unfold zsBs
      rw [List.drop_eq_getElem_cons hkl, List.flatMap_cons]
    obtain ⟨c, d⟩ := zn_back (h1 _ hm) (h2 _ hm) (zsBs (l.drop (k + 1)))
    rw [zS, zL, a, b, e, c, d]
    refine ⟨rfl, ?_⟩
    rw [List.take_add_one, List.getElem?_eq_getElem hkl]
    rfl
theorem numZ_of {m : Mp} (h : MayP m) {i : Nat} (hi : i < m.zs.length) : NumZ m.zs[i] := by
  have hids : ∀ a, a ∈ idsZ m.zs[i] → NumOk a := fun a ha => by
    have := h.rng a (List.mem_flatMap.2 ⟨_, List.getElem_mem hi, ha⟩)
    have := h.n2
    unfold NumOk; omega
  have hid : ∀ j (hj : j < m.zs.length), NumOk m.zs[j].id := fun j hj => by
    have := h.rng m.zs[j].id (List.mem_flatMap.2 ⟨_, List.getElem_mem hj, mem_ids.2 (.inl rfl)⟩)
    have := h.n2
    unfold NumOk; omega
  have c := h.core i hi
  have c1 := c.ow1
  have c2 := c.ow2
  have c3 := c.ep1
  have c4 := c.ep2
  have o : NumOk m.zs[i].ow := by unfold NumOk; omega
  have e : NumOk m.zs[i].ep := by unfold NumOk; omega
  rcases c.st with ⟨p, s1, s2, s3⟩ | ⟨p, s1, s2, s3, s4, s5⟩ | ⟨p, s1, s2⟩ | ⟨p, s1, s2, s3⟩
  · exact ⟨hid i hi, o, e, by unfold NumOk; omega, by unfold NumOk; omega, by unfold NumOk; omega⟩
  · exact ⟨hid i hi, o, e, by unfold NumOk; omega, by unfold NumOk; omega, by unfold NumOk; omega⟩
  · exact ⟨hid i hi, o, e, by unfold NumOk; omega, by unfold NumOk; omega, hids _ (mem_ids.2 (.inr ⟨p, rfl⟩))⟩
  · refine ⟨hid i hi, o, e, by unfold NumOk; omega, by unfold NumOk; omega, ?_⟩
    rcases s3 with ⟨j, hj, _, hp⟩ | ⟨h2, hp⟩
    · rw [hp.na]; exact hid j hj
    · rw [hp.na]; exact hid _ h2
theorem mp_back {m : Mp} (h : MayP m) (hs : SmZ m) : mOk (some (mBs m)) = true ∧ mD (some (mBs m)) = m := by
  have hn : ∀ z ∈ m.zs, NumZ z := fun z hz => by
    obtain ⟨i, hi, rfl⟩ := List.getElem_of_mem hz
    exact numZ_of h hi
  have hl := h.len
  have v : NumOk m.ver := by have := h.v1; have := h.v2; unfold NumOk; omega
  have x : NumOk m.nxt := by have := h.n1; have := h.n2; unfold NumOk; omega
  have l : NumOk (m.zs.length : Int) := by unfold NumOk; omega
  have eN : mN (some (mBs m)) = m.zs.length := by
    unfold mN mBs
    simp only [nx_cons]
    have := clamp_val l
    omega
  have eS : mS (some (mBs m)) = some (zsBs m.zs) := by
    unfold mS mBs
    simp only [nx_cons, encs_nil]
  obtain ⟨a, b⟩ := zs_back m.zs.length m.zs (Nat.le_refl _) hn hs.txt
  have hD : mD (some (mBs m)) = m := by
    unfold mD
    rw [eN, eS, b, List.take_length]
    unfold mBs
    simp only [nx_cons, clamp_val v, clamp_val x]
  refine ⟨?_, hD⟩
  unfold mOk
  rw [hD, eN, eS, a, List.drop_length, (mayB_iff m).2 h]
  rfl
end Go.Proofs.Ytbohpjinkdffhaa
namespace Go.Proofs.Ytbohpjinkdffhaa
open Go.RowKit
set_option linter.unusedVariables false
set_option linter.unusedSimpArgs false
/-- what the law looks at -/
structure Lt60 (m : Mp) : Prop where
  len : m.zs.length ≤ 60
  txt : ∀ i (h : i < m.zs.length), m.zs[i].fr.size ≤ 60 ∧ m.zs[i].tt.size ≤ 60 ∧ m.zs[i].ky.size ≤ 60
theorem Lt60.sm {m : Mp} (h : Lt60 m) : SmZ m := ⟨h.len, fun z hz => by obtain ⟨i, hi, rfl⟩ := List.getElem_of_mem hz; have := h.txt i hi; omega⟩
set_option maxHeartbeats 4000000 in
set_option maxRecDepth 10000 in
theorem drHeavyMap (A : Option Addr) (cc : Nat) (m : Mp) (w : World) (h : Cells w w.heap.size A m.zs.length cc 9 (flatZ m.zs)) {b : Bool} (hb : b = false ↔ Lt60 m) :
    Calls Try.prog 18 #[.agg #[.int .i64 m.ver, .int .i64 m.nxt, .slice A m.zs.length cc]] w fun e w' => e = .returned (.bool b) ∧ Below w.heap.size w w' := by
  have HR := Lib.hid h
  have HNB : Hid (Lt60 m → b = false) := Lib.hid hb.2
  have HYB : Hid (¬ Lt60 m → b = true) := Lib.hid (fun h => by cases e : b with | true => rfl | false => exact absurd (hb.1 e) h)
  clear h hb
  by_cases hbig : (60 : Int) < (m.zs.length : Int)
  · go_enter Try.func18, Try.ntmps18
    go_wp2_with fail
    go_ret
    exact ⟨ret_bool (HYB.out (fun h => by have := h.len; omega)).symm, by ((repeat (first | (with_reducible exact Below.refl _ _) | (with_reducible assumption) | ((with_reducible refine b_set ?_ ?_); · (first | omega | (simp; done) | (simp; omega))) | ((with_reducible refine b_alloc ?_ ?_); · (first | omega | (simp; done) | (simp; omega))) | (with_reducible refine Below.drew ?_) | (with_reducible refine b_drewN ?_) | ((with_reducible refine b_call (by assumption) ?_ ?_); · (first | omega | (simp; done) | (simp; omega))))); done)⟩
  have hl60 : m.zs.length ≤ 60 := by omega
  go_enter Try.func18, Try.ntmps18
  go_wp2_with fail
  have HP : Hid (Whl (w.alloc (.cells #[.int .i64 m.ver, .int .i64 m.nxt, .slice A m.zs.length cc] 33)) w.heap.size 33 #[.int .i64 m.ver, .int .i64 m.nxt, .slice A m.zs.length cc]) := Lib.hid (Whl.new rfl)
  have HB0 : Hid (Below w.heap.size w (w.alloc (.cells #[.int .i64 m.ver, .int .i64 m.nxt, .slice A m.zs.length cc] 33))) := Lib.hid ((Below.refl _ _).alloc (Nat.le_refl _) _)
  generalize (w.alloc (.cells #[.int .i64 m.ver, .int .i64 m.nxt, .slice A m.zs.length cc] 33)) = V at *
  have hwV := HB0.out.size
  have hPl := HP.out.low
  go_loopw [3] (fun kv wr => ∃ k : Nat, k ≤ m.zs.length ∧ kv = .int .i64 k ∧ (∀ j (hj : j < m.zs.length), j < k → m.zs[j].fr.size ≤ 60 ∧ m.zs[j].tt.size ≤ 60 ∧ m.zs[j].ky.size ≤ 60) ∧ Below V.heap.size V wr) (fun kv _ => m.zs.length - (intOf kv).toNat)
  case atStart => exact ⟨0, Nat.zero_le _, rfl, fun j hj h => by omega, Below.refl _ _⟩
  case round =>
    obtain ⟨k, hkl, rfl, hok, hT⟩ := hrel
    have hP := HP.out.below hT hPl
    have hB : Below w.heap.size w wr := HB0.out.trans (hT.mono hwV)
    have hr := cells_keep HR.out hB hB.size
    have HOK := Lib.hid hok
    have HT := Lib.hid hT
    have HBW := Lib.hid hB
    have hVr := hT.size
    have d2 := hP.cell 2
    simp only [List.getElem?_toArray, List.getElem?_cons_succ, List.getElem?_cons_zero] at d2
    clear hok hT hB hP
    by_cases hkt : k < m.zs.length
    · have q5 : (k : Int) < (m.zs.length : Int) := by omega
      have hwk : IntKind.i64.wrap ((k : Int) + 1) = (k : Int) + 1 := by rw [IntKind.wrap_i64]; omega
      obtain ⟨z, hz⟩ : ∃ z, z = m.zs[k] := ⟨_, rfl⟩
      obtain ⟨gz, go, rfl, hgz, u0, u1, u2, u3, u4, u5, u6, u7, u8⟩ := zn_at hr hkt
      rw [← hz] at u0 u1 u2 u3 u4 u5 u6 u7 u8
      have HZ := Lib.hid hz
      clear hr hz
      by_cases c1 : (60 : Int) < (z.fr.size : Int)
      · go_wp2_with fail
        go_ret
        exact ⟨ret_bool (HYB.out (fun h => by have := (h.txt k hkt).1; rw [← HZ.out] at this; omega)).symm, by have := HBW.out; ((repeat (first | (with_reducible exact Below.refl _ _) | (with_reducible assumption) | ((with_reducible refine b_set ?_ ?_); · (first | omega | (simp; done) | (simp; omega))) | ((with_reducible refine b_alloc ?_ ?_); · (first | omega | (simp; done) | (simp; omega))) | (with_reducible refine Below.drew ?_) | (with_reducible refine b_drewN ?_) | ((with_reducible refine b_call (by assumption) ?_ ?_); · (first | omega | (simp; done) | (simp; omega))))); done)⟩
      by_cases c2 : (60 : Int) < (z.tt.size : Int)
      · go_wp2_with fail
        go_ret
        exact ⟨ret_bool (HYB.out (fun h => by have := (h.txt k hkt).2.1; rw [← HZ.out] at this; omega)).symm, by have := HBW.out; ((repeat (first | (with_reducible exact Below.refl _ _) | (with_reducible assumption) | ((with_reducible refine b_set ?_ ?_); · (first | omega | (simp; done) | (simp; omega))) | ((with_reducible refine b_alloc ?_ ?_); · (first | omega | (simp; done) | (simp; omega))) | (with_reducible refine Below.drew ?_) | (with_reducible refine b_drewN ?_) | ((with_reducible refine b_call (by assumption) ?_ ?_); · (first | omega | (simp; done) | (simp; omega))))); done)⟩
      by_cases c3 : (60 : Int) < (z.ky.size : Int)
      · go_wp2_with fail
        go_ret
        exact ⟨ret_bool (HYB.out (fun h => by have := (h.txt k hkt).2.2; rw [← HZ.out] at this; omega)).symm, by have := HBW.out; ((repeat (first | (with_reducible exact Below.refl _ _) | (with_reducible assumption) | ((with_reducible refine b_set ?_ ?_); · (first | omega | (simp; done) | (simp; omega))) | ((with_reducible refine b_alloc ?_ ?_); · (first | omega | (simp; done) | (simp; omega))) | (with_reducible refine Below.drew ?_) | (with_reducible refine b_drewN ?_) | ((with_reducible refine b_call (by assumption) ?_ ?_); · (first | omega | (simp; done) | (simp; omega))))); done)⟩
      go_wp2_with fail
      refine ⟨⟨k + 1, hkt, by go_num, fun j hj hjk => ?_, HT.out.alloc (by omega) _⟩, measZ hkt⟩
      by_cases e : j = k
      · subst e
        rw [← HZ.out]
        omega
      · exact HOK.out j hj (by omega)
    · obtain rfl : m.zs.length = k := by omega
      go_wp2_with fail
      go_ret
      exact ⟨ret_bool (HNB.out ⟨hl60, fun i hi => HOK.out i hi hi⟩).symm, HBW.out⟩
end Go.Proofs.Ytbohpjinkdffhaa
