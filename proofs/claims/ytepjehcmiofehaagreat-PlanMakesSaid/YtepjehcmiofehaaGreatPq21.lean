/- The document's Decode, of any bytes. The document's Bytes, EncodeChange. The document's Encode, of any map of moderate size. Changes and maps come back. The law's heavyMap. The document's directory: done, where nothing is. The document's directory: change: abo -/
import Derived.Test.YtepjehcmiofehaaGreatPq20
namespace Go.Proofs.YtepjehcmiofehaaGreat
open Go.RowKit
set_option linter.unusedVariables false
set_option linter.unusedSimpArgs false
/-- as DS, without the Reader -/
structure DT (b G k : Nat) (s : Option (List Nat)) (ver nxt : Int) (w2 x : World) (u v : Value) : Prop where
  g : Whl x G 24 #[.int .i64 ver, .int .i64 nxt, u]
  own : x.ownsRow w2.heap.size 56 9 v k (flatZ (zL k s))
  tou : Touch (fun q => q = b ∨ q = G) w2 x
  bl : b < w2.heap.size
  gl : G < w2.heap.size
  ne : G ≠ b
end Go.Proofs.YtepjehcmiofehaaGreat
namespace Go.Proofs.YtepjehcmiofehaaGreat
open Go.RowKit
set_option linter.unusedVariables false
set_option linter.unusedSimpArgs false
theorem nb_enc {xs : List Nat} (h : xs.length ≤ 4611686018427387904) (r : List Nat) : nb (some (enc xs.length ++ (xs ++ r))) = (xs, some r) := by
  unfold nb
  rw [nx_enc h]
  simp
theorem strU_bs (s : ByteArray) : strU (bs s) = s := by
  have h : (strU (bs s)).data.toList = s.data.toList := by
    unfold strU bs
    rw [strOfNums_data, List.map_map, List.map_map]
    refine (List.map_congr_left (g := fun b => b) (fun b _ => ?_)).trans (List.map_id' _)
    simp [Function.comp]
  have h2 : (strU (bs s)).data = s.data := Array.ext' h
  cases s with
  | mk d => cases hh : strU (bs ⟨d⟩) with | mk d2 => rw [hh] at h2; simp only at h2; rw [h2]
end Go.Proofs.YtepjehcmiofehaaGreat
namespace Go.Proofs.YtepjehcmiofehaaGreat
open Go.RowKit
set_option linter.unusedVariables false
set_option linter.unusedSimpArgs false
/-- a row of bytes that grows beside a box -/
structure ES (b1 g : Nat) (w1 : World) (t : TypeId) (cs : Array Value) (x : World) (s : Value) (L : List Nat) : Prop where
  own : x.ownsRow b1 5 1 s L.length (flatU L)
  q : Whl x g t cs
  ne : ∀ q, s.ownBlock = some q → q ≠ g
  bel : Below b1 w1 x
  bw : b1 ≤ w1.heap.size
end Go.Proofs.YtepjehcmiofehaaGreat
namespace Go.Proofs.YtepjehcmiofehaaGreat
open Go.RowKit
set_option linter.unusedVariables false
set_option linter.unusedSimpArgs false
def NumOk (n : Int) : Prop := 0 ≤ n ∧ n ≤ 1099511627776
theorem clamp_val {n : Int} (h : NumOk n) : ((clamp n : Nat) : Int) = n := by
  obtain ⟨h1, h2⟩ := h
  unfold clamp
  omega
theorem nx_cons {n : Int} {l : List Int} {r : List Nat} : nx (some (encs (n :: l) ++ r)) = (clamp n, some (encs l ++ r)) := by
  have e : encs (n :: l) ++ r = enc (clamp n) ++ (encs l ++ r) := by simp [encs, List.append_assoc]
  rw [e]
  exact nx_enc (clamp_le n) _
theorem encs_nil (r : List Nat) : encs [] ++ r = r := by simp [encs]
theorem nb_cons {s : ByteArray} {l : List (List Nat)} {r : List Nat} (h : s.size ≤ 10000) : nb (some (encb (bs s :: l) ++ r)) = (bs s, some (encb l ++ r)) := by
  have e : encb (bs s :: l) ++ r = enc (bs s).length ++ (bs s ++ (encb l ++ r)) := by simp [encb, List.append_assoc]
  rw [e]
  exact nb_enc (by rw [bs_length]; omega) _
theorem encb_nil (r : List Nat) : encb [] ++ r = r := by simp [encb]
structure NumZ (z : Zn) : Prop where
  id : NumOk z.id
  ow : NumOk z.ow
  ep : NumOk z.ep
  pd : NumOk z.pd
  mv : NumOk z.mv
  nw : NumOk z.nw
theorem zn_back {z : Zn} (h : NumZ z) (ht : z.fr.size ≤ 200 ∧ z.tt.size ≤ 200 ∧ z.ky.size ≤ 200) (r : List Nat) : znD (some (zBs z ++ r)) = z ∧ znE (some (zBs z ++ r)) = some r := by
  obtain ⟨h1, h2, h3⟩ := ht
  have q1 : z.fr.size ≤ 10000 := by omega
  have q2 : z.tt.size ≤ 10000 := by omega
  have q3 : z.ky.size ≤ 10000 := by omega
  constructor
  · unfold znD zn1 zn2 zBs
    simp only [List.append_assoc, nx_cons, encs_nil, nb_cons q1, nb_cons q2, nb_cons q3, encb_nil, strU_bs, clamp_val h.id, clamp_val h.ow, clamp_val h.ep, clamp_val h.pd, clamp_val h.mv, clamp_val h.nw]
  · unfold znE zn1 zn2 zBs
    simp only [List.append_assoc, nx_cons, encs_nil, nb_cons q1, nb_cons q2, nb_cons q3, encb_nil]
theorem zs_back : ∀ (k : Nat) (l : List Zn), k ≤ l.length → (∀ z ∈ l, NumZ z) → (∀ z ∈ l, z.fr.size ≤ 200 ∧ z.tt.size ≤ 200 ∧ z.ky.size ≤ 200) → zS k (some (zsBs l)) = some (zsBs (l.drop k)) ∧ zL k (some (zsBs l)) = l.take k
  | 0, l, _, _, _ => by simp [zS, zL]
  | k + 1, l, hk, h1, h2 => by
    obtain ⟨a, b⟩ := zs_back k l (by omega) h1 h2
    have hkl : k < l.length := by omega
    have hm : l[k] ∈ l := List.getElem_mem hkl
    have e : zsBs (l.drop k) = zBs l[k] ++ zsBs (l.drop (k + 1)) := by
      unfold zsBs
      rw [List.drop_eq_getElem_cons hkl, List.flatMap_cons]
    obtain ⟨c, d⟩ := zn_back (h1 _ hm) (h2 _ hm) (zsBs (l.drop (k + 1)))
    rw [zS, zL, a, b, e, c, d]
    refine ⟨rfl, ?_⟩
    rw [List.take_add_one, List.getElem?_eq_getElem hkl]
    rfl
theorem numZ_of {m : Mp} (h : MayP m) {i : Nat} (hi : i < m.zs.length) : NumZ m.zs[i] := by
  have hids : ∀ a, a ∈ idsZ m.zs[i] → NumOk a := fun a ha => by
    have := h.rng a (List.mem_flatMap.2 ⟨_, List.getElem_mem hi, ha⟩)
    have := h.n2
    unfold NumOk; omega
  have hid : ∀ j (hj : j < m.zs.length), NumOk m.zs[j].id := fun j hj => by
    have := h.rng m.zs[j].id (List.mem_flatMap.2 ⟨_, List.getElem_mem hj, mem_ids.2 (.inl rfl)⟩)
    have := h.n2
    unfold NumOk; omega
  have c := h.core i hi
  have c1 := c.ow1
  have c2 := c.ow2
  have c3 := c.ep1
  have c4 := c.ep2
  have o : NumOk m.zs[i].ow := by unfold NumOk; omega
  have e : NumOk m.zs[i].ep := by unfold NumOk; omega
  rcases c.st with ⟨p, s1, s2, s3⟩ | ⟨p, s1, s2, s3, s4, s5⟩ | ⟨p, s1, s2⟩ | ⟨p, s1, s2, s3⟩
  · exact ⟨hid i hi, o, e, by unfold NumOk; omega, by unfold NumOk; omega, by unfold NumOk; omega⟩
  · exact ⟨hid i hi, o, e, by unfold NumOk; omega, by unfold NumOk; omega, by unfold NumOk; omega⟩
  · exact ⟨hid i hi, o, e, by unfold NumOk; omega, by unfold NumOk; omega, hids _ (mem_ids.2 (.inr ⟨p, rfl⟩))⟩
  · refine ⟨hid i hi, o, e, by unfold NumOk; omega, by unfold NumOk; omega, ?_⟩
    rcases s3 with ⟨j, hj, _, hp⟩ | ⟨h2, hp⟩
    · rw [hp.na]; exact hid j hj
    · rw [hp.na]; exact hid _ h2
theorem mp_back {m : Mp} (h : MayP m) (hs : SmZ m) : mOk (some (mBs m)) = true ∧ mD (some (mBs m)) = m := by
  have hn : ∀ z ∈ m.zs, NumZ z := fun z hz => by
    obtain ⟨i, hi, rfl⟩ := List.getElem_of_mem hz
    exact numZ_of h hi
  have hl := h.len
  have v : NumOk m.ver := by have := h.v1; have := h.v2; unfold NumOk; omega
  have x : NumOk m.nxt := by have := h.n1; have := h.n2; unfold NumOk; omega
  have l : NumOk (m.zs.length : Int) := by unfold NumOk; omega
  have eN : mN (some (mBs m)) = m.zs.length := by
    unfold mN mBs
    simp only [nx_cons]
    have := clamp_val l
    omega
  have eS : mS (some (mBs m)) = some (zsBs m.zs) := by
    unfold mS mBs
    simp only [nx_cons, encs_nil]
  obtain ⟨a, b⟩ := zs_back m.zs.length m.zs (Nat.le_refl _) hn hs.txt
  have hD : mD (some (mBs m)) = m := by
    unfold mD
    rw [eN, eS, b, List.take_length]
    unfold mBs
    simp only [nx_cons, clamp_val v, clamp_val x]
  refine ⟨?_, hD⟩
  unfold mOk
  rw [hD, eN, eS, a, List.drop_length, (mayB_iff m).2 h]
  rfl
end Go.Proofs.YtepjehcmiofehaaGreat
namespace Go.Proofs.YtepjehcmiofehaaGreat
open Go.RowKit
set_option linter.unusedVariables false
set_option linter.unusedSimpArgs false
/-- what the law looks at -/
structure Lt60 (m : Mp) : Prop where
  len : m.zs.length ≤ 60
  txt : ∀ i (h : i < m.zs.length), m.zs[i].fr.size ≤ 60 ∧ m.zs[i].tt.size ≤ 60 ∧ m.zs[i].ky.size ≤ 60
set_option maxHeartbeats 4000000 in
set_option maxRecDepth 10000 in
theorem drHeavyMap (A : Option Addr) (cc : Nat) (m : Mp) (w : World) (h : Cells w w.heap.size A m.zs.length cc 9 (flatZ m.zs)) {b : Bool} (hb : b = false ↔ Lt60 m) :
    Calls Tryz.prog 12 #[.agg #[.int .i64 m.ver, .int .i64 m.nxt, .slice A m.zs.length cc]] w fun e w' => e = .returned (.bool b) ∧ Below w.heap.size w w' := by
  have HR := Lib.hid h
  have HNB : Hid (Lt60 m → b = false) := Lib.hid hb.2
  have HYB : Hid (¬ Lt60 m → b = true) := Lib.hid (fun h => by cases e : b with | true => rfl | false => exact absurd (hb.1 e) h)
  clear h hb
  by_cases hbig : (60 : Int) < (m.zs.length : Int)
  · go_enter Tryz.func12, Tryz.ntmps12
    go_wp2_with fail
    go_ret
    exact ⟨ret_bool (HYB.out (fun h => by have := h.len; omega)).symm, by ((repeat (first | (with_reducible exact Below.refl _ _) | (with_reducible assumption) | ((with_reducible refine b_set ?_ ?_); · (first | omega | (simp; done) | (simp; omega))) | ((with_reducible refine b_alloc ?_ ?_); · (first | omega | (simp; done) | (simp; omega))) | (with_reducible refine Below.drew ?_) | (with_reducible refine b_drewN ?_) | ((with_reducible refine b_call (by assumption) ?_ ?_); · (first | omega | (simp; done) | (simp; omega))))); done)⟩
  have hl60 : m.zs.length ≤ 60 := by omega
  go_enter Tryz.func12, Tryz.ntmps12
  go_wp2_with fail
  have HP : Hid (Whl (w.alloc (.cells #[.int .i64 m.ver, .int .i64 m.nxt, .slice A m.zs.length cc] 24)) w.heap.size 24 #[.int .i64 m.ver, .int .i64 m.nxt, .slice A m.zs.length cc]) := Lib.hid (Whl.new rfl)
  have HB0 : Hid (Below w.heap.size w (w.alloc (.cells #[.int .i64 m.ver, .int .i64 m.nxt, .slice A m.zs.length cc] 24))) := Lib.hid ((Below.refl _ _).alloc (Nat.le_refl _) _)
  generalize (w.alloc (.cells #[.int .i64 m.ver, .int .i64 m.nxt, .slice A m.zs.length cc] 24)) = V at *
  have hwV := HB0.out.size
  have hPl := HP.out.low
  go_loopw [3] (fun kv wr => ∃ k : Nat, k ≤ m.zs.length ∧ kv = .int .i64 k ∧ (∀ j (hj : j < m.zs.length), j < k → m.zs[j].fr.size ≤ 60 ∧ m.zs[j].tt.size ≤ 60 ∧ m.zs[j].ky.size ≤ 60) ∧ Below V.heap.size V wr) (fun kv _ => m.zs.length - (intOf kv).toNat)
  case atStart => exact ⟨0, Nat.zero_le _, rfl, fun j hj h => by omega, Below.refl _ _⟩
  case round =>
    obtain ⟨k, hkl, rfl, hok, hT⟩ := hrel
    have hP := HP.out.below hT hPl
    have hB : Below w.heap.size w wr := HB0.out.trans (hT.mono hwV)
    have hr := cells_keep HR.out hB hB.size
    have HOK := Lib.hid hok
    have HT := Lib.hid hT
    have HBW := Lib.hid hB
    have hVr := hT.size
    have d2 := hP.cell 2
    simp only [List.getElem?_toArray, List.getElem?_cons_succ, List.getElem?_cons_zero] at d2
    clear hok hT hB hP
    by_cases hkt : k < m.zs.length
    · have q5 : (k : Int) < (m.zs.length : Int) := by omega
      have hwk : IntKind.i64.wrap ((k : Int) + 1) = (k : Int) + 1 := by rw [IntKind.wrap_i64]; omega
      obtain ⟨z, hz⟩ : ∃ z, z = m.zs[k] := ⟨_, rfl⟩
      obtain ⟨gz, go, rfl, hgz, u0, u1, u2, u3, u4, u5, u6, u7, u8⟩ := zn_at hr hkt
      rw [← hz] at u0 u1 u2 u3 u4 u5 u6 u7 u8
      have HZ := Lib.hid hz
      clear hr hz
      by_cases c1 : (60 : Int) < (z.fr.size : Int)
      · go_wp2_with fail
        go_ret
        exact ⟨ret_bool (HYB.out (fun h => by have := (h.txt k hkt).1; rw [← HZ.out] at this; omega)).symm, by have := HBW.out; ((repeat (first | (with_reducible exact Below.refl _ _) | (with_reducible assumption) | ((with_reducible refine b_set ?_ ?_); · (first | omega | (simp; done) | (simp; omega))) | ((with_reducible refine b_alloc ?_ ?_); · (first | omega | (simp; done) | (simp; omega))) | (with_reducible refine Below.drew ?_) | (with_reducible refine b_drewN ?_) | ((with_reducible refine b_call (by assumption) ?_ ?_); · (first | omega | (simp; done) | (simp; omega))))); done)⟩
      by_cases c2 : (60 : Int) < (z.tt.size : Int)
      · go_wp2_with fail
        go_ret
        exact ⟨ret_bool (HYB.out (fun h => by have := (h.txt k hkt).2.1; rw [← HZ.out] at this; omega)).symm, by have := HBW.out; ((repeat (first | (with_reducible exact Below.refl _ _) | (with_reducible assumption) | ((with_reducible refine b_set ?_ ?_); · (first | omega | (simp; done) | (simp; omega))) | ((with_reducible refine b_alloc ?_ ?_); · (first | omega | (simp; done) | (simp; omega))) | (with_reducible refine Below.drew ?_) | (with_reducible refine b_drewN ?_) | ((with_reducible refine b_call (by assumption) ?_ ?_); · (first | omega | (simp; done) | (simp; omega))))); done)⟩
      by_cases c3 : (60 : Int) < (z.ky.size : Int)
      · go_wp2_with fail
        go_ret
        exact ⟨ret_bool (HYB.out (fun h => by have := (h.txt k hkt).2.2; rw [← HZ.out] at this; omega)).symm, by have := HBW.out; ((repeat (first | (with_reducible exact Below.refl _ _) | (with_reducible assumption) | ((with_reducible refine b_set ?_ ?_); · (first | omega | (simp; done) | (simp; omega))) | ((with_reducible refine b_alloc ?_ ?_); · (first | omega | (simp; done) | (simp; omega))) | (with_reducible refine Below.drew ?_) | (with_reducible refine b_drewN ?_) | ((with_reducible refine b_call (by assumption) ?_ ?_); · (first | omega | (simp; done) | (simp; omega))))); done)⟩
      go_wp2_with fail
      refine ⟨⟨k + 1, hkt, by go_num, fun j hj hjk => ?_, HT.out.alloc (by omega) _⟩, measZ hkt⟩
      by_cases e : j = k
      · subst e
        rw [← HZ.out]
        omega
      · exact HOK.out j hj (by omega)
    · obtain rfl : m.zs.length = k := by omega
      go_wp2_with fail
      go_ret
      exact ⟨ret_bool (HNB.out ⟨hl60, fun i hi => HOK.out i hi hi⟩).symm, HBW.out⟩
end Go.Proofs.YtepjehcmiofehaaGreat
namespace Go.Proofs.YtepjehcmiofehaaGreat
open Go.RowKit
set_option linter.unusedVariables false
set_option linter.unusedSimpArgs false
end Go.Proofs.YtepjehcmiofehaaGreat
namespace Go.Proofs.YtepjehcmiofehaaGreat
open Go.RowKit
set_option linter.unusedVariables false
set_option linter.unusedSimpArgs false
end Go.Proofs.YtepjehcmiofehaaGreat
namespace Go.Proofs.YtepjehcmiofehaaGreat
open Go.RowKit
set_option linter.unusedVariables false
set_option linter.unusedSimpArgs false
end Go.Proofs.YtepjehcmiofehaaGreat
namespace Go.Proofs.YtepjehcmiofehaaGreat
open Go.RowKit
set_option linter.unusedVariables false
set_option linter.unusedSimpArgs false
end Go.Proofs.YtepjehcmiofehaaGreat
namespace Go.Proofs.YtepjehcmiofehaaGreat
open Go.RowKit
set_option linter.unusedVariables false
set_option linter.unusedSimpArgs false
end Go.Proofs.YtepjehcmiofehaaGreat
