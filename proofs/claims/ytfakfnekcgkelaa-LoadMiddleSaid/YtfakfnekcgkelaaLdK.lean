/- LoadMiddle: the walk of the statement. -/
import Derived.Test.YtfakfnekcgkelaaLdJ
import Derived.Test.YtfakfnekcgkelaaLoadK
import Derived.Deep.DeepCutAuto
import Derived.Lib.VarintBits
namespace Go.Proofs.Ytfakfnekcgkelaa
open Go.RowKit Go.MapKept
set_option linter.unusedVariables false
set_option linter.unusedSimpArgs false

theorem and15 (z : Int) : bits .and .i64 z 15 = z % 16 := by
  show IntKind.i64.wrap (((BitVec.ofInt 64 z &&& BitVec.ofInt 64 15).toNat : Nat) : Int) = _
  rw [BitVec.toNat_and, BitVec.toNat_ofInt, show (BitVec.ofInt 64 15).toNat = 2 ^ 4 - 1 from rfl, Nat.and_two_pow_sub_one_eq_mod, IntKind.wrap_i64]
  omega
def low4 (z : Int) : Nat := (z % 16).toNat
theorem low4_lt (z : Int) : low4 z < 16 := by unfold low4; omega
theorem low4_eq (z : Int) : z % 16 = (low4 z : Int) := by unfold low4; omega
set_option maxHeartbeats 1000000 in
set_option maxRecDepth 10000 in
theorem walkLoadMiddle (A : Option Addr) (c : Nat) (xs : List Int) (w : World) (hc : xs.length ≤ c) (hcm : c ≤ maxLen) (hq : ∀ r ∈ xs, (Lit.int .i64 r).wf = true) (hx : Cells w w.heap.size A xs.length c 1 (xs.flatMap fun r => [.int .i64 r])) :
    Calls Try.prog 4 #[.slice A xs.length c] w fun e w' => e = .returned (.bool true) ∧ Below w.heap.size w w' := by
  by_cases h1 : xs.length < 1
  · have q1 : (xs.length : Int) < 1 := by omega
    clear hq hx
    go_enter Try.func4, Try.ntmps4
    go_wp2_with (first | (go_at_call 16; refine (loadKKnown _).mono ?_; rintro e wk ⟨rfl, hbk⟩) | fail)
    go_ret
    exact ⟨rfl, hbk⟩
  by_cases h26 : 26 < xs.length
  · have q1 : ¬ (xs.length : Int) < 1 := by omega
    have q2 : (26 : Int) < (xs.length : Int) := by omega
    clear hq hx
    go_enter Try.func4, Try.ntmps4
    go_wp2_with (first | (go_at_call 16; refine (loadKKnown _).mono ?_; rintro e wk ⟨rfl, hbk⟩) | fail)
    go_ret
    exact ⟨rfl, hbk⟩
  have q1 : ¬ (xs.length : Int) < 1 := by omega
  have q2 : ¬ (26 : Int) < (xs.length : Int) := by omega
  have HX := Lib.hid hx
  have HQ := Lib.hid hq
  obtain ⟨cs, hcs⟩ : ∃ cs, cs = xs.map low4 := ⟨_, rfl⟩
  have hcl : cs.length = xs.length := by rw [hcs]; simp
  have hcsi : ∀ i (h : i < xs.length), cs[i]? = some (low4 xs[i]) := fun i h => by rw [hcs, List.getElem?_map, List.getElem?_eq_getElem h]; rfl
  have hcb : ∀ n ∈ cs, n < 16 := fun n hn => by rw [hcs] at hn; obtain ⟨z, _, rfl⟩ := List.mem_map.1 hn; exact low4_lt z
  have HCI := Lib.hid hcsi
  have HCB := Lib.hid hcb
  clear hx hq hcsi hcb hcs
  go_enter Try.func4, Try.ntmps4
  go_wp2_with (first
    | (go_at_call 6; refine (newLoad _).mono ?_; rintro e wa ⟨rfl, hla, hba⟩; have hsa := hba.size; have hlwa := hla.low)
    | fail)
  have HLA := Lib.hid hla
  have HB0 := Lib.hid hba
  clear hla hba
  go_loopw [4, 5] (fun al i wr => ∃ (j : Nat) (fp : List Nat), j ≤ xs.length ∧ i = .int .i64 j ∧ al = .int .i64 (sumN (cs.take j)) ∧ LdH wr w.heap.size fp (kof (km 0 (cs.take j))) ∧ (∀ x ∈ fp, w.heap.size ≤ x) ∧ Below w.heap.size w wr) (fun _ i _ => xs.length - (intOf i).toNat)
  case atStart => exact ⟨0, [], Nat.zero_le _, rfl, rfl, HLA.out, by simp, HB0.out⟩
  case round =>
    obtain ⟨j, fp, hj, rfl, rfl, hL, hfp, hB⟩ := hrel
    have hBs := hB.size
    have hlw := hL.low
    by_cases hjl : j < xs.length
    · have q3 : (j : Int) < (xs.length : Int) := by omega
      obtain ⟨qb, qo, rfl, hqb, e1⟩ := int_at HX.out hjl
      have e2 := bkeep hB e1 hqb
      have htk : (cs.take j).length = j := by rw [List.length_take]; omega
      have htj : cs.take (j + 1) = cs.take j ++ [low4 xs[j]] := by rw [List.take_add_one, HCI.out j hjl]; rfl
      have hsb : 0 ≤ sumN (cs.take j) := sumN_nonneg _
      have hsb2 : sumN (cs.take j) ≤ 15 * j := by have := sumN_le (cs.take j) (fun n hn => HCB.out n (List.mem_of_mem_take hn)); rw [htk] at this; exact this
      obtain ⟨p, hp⟩ : ∃ p, p = cs.take j := ⟨_, rfl⟩
      obtain ⟨h, hh⟩ : ∃ h, h = low4 xs[j] := ⟨_, rfl⟩
      obtain ⟨z, hz⟩ : ∃ z, z = xs[j] := ⟨_, rfl⟩
      have hl4 := low4_lt xs[j]
      have hle := low4_eq xs[j]
      rw [← hh] at htj hl4 hle
      rw [← hz] at e1 e2 hle
      rw [← hp] at htj htk hsb hsb2 hL
      rw [← hp]
      have hand : bits BinOp.and IntKind.i64 z 15 = (h : Int) := by rw [and15]; exact hle
      have HP := Lib.hid hp
      have HTJ := Lib.hid htj
      have HL0 := Lib.hid hL
      have HF0 := Lib.hid hfp
      have HB1 := Lib.hid hB
      clear hp hh hz htj hL hfp hB
      go_wp2_with fail
      go_loopw [4, 6] (fun al k wq => ∃ (n : Nat) (fq : List Nat), n ≤ h ∧ k = .int .i64 n ∧ al = .int .i64 (sumN p + n) ∧ LdH wq w.heap.size fq (kof (km 0 (p ++ [n]))) ∧ (∀ x ∈ fq, w.heap.size ≤ x) ∧ Below w.heap.size w wq) (fun _ k _ => h - (intOf k).toNat)
      case atStart => exact ⟨0, fp, Nat.zero_le _, rfl, by simp, by rw [km_next]; exact HL0.out, HF0.out, HB1.out⟩
      case round =>
        obtain ⟨n, fq, hn, rfl, rfl, hL, hfq, hB⟩ := hrel
        have hBs2 := hB.size
        have hlw2 := hL.low
        have e3 := bkeep hB e1 hqb
        by_cases hnh : n < h
        · have q4 : (n : Int) < (h : Int) := by omega
          obtain ⟨W, hW⟩ : ∃ W, W = wr.alloc (.cells #[.int .u8 (97 + (j : Int))] 5) := ⟨_, rfl⟩
          have hcv : (convert 41 9 (.slice (some ⟨wr.heap.size, 0, none⟩) 1 1)).run Try.prog W = .ok (.string ⟨#[UInt8.ofNat (97 + j)]⟩) W := conv1 (by rw [hW, (Whl.new rfl).cell]; simp) (by omega) 1
          obtain ⟨sj, hsj⟩ : ∃ x : ByteArray, x = ⟨#[UInt8.ofNat (97 + j)]⟩ := ⟨_, rfl⟩
          rw [← hsj] at hcv
          have hsk : sj.data.toList = kL p.length := by rw [hsj, htk]; rfl
          have HSK := Lib.hid hsk
          have HHK : Hid (hitK (kof (km 0 (p ++ [n]))) 7 (kL p.length) = kof (km 0 (p ++ [n + 1]))) := Lib.hid (kof_hit (by omega) (by omega))
          clear hsj hsk
          have HL2 : Hid (LdH W w.heap.size fq (kof (km 0 (p ++ [n])))) := Lib.hid (by rw [hW]; exact hL.keep (D := fun _ => False) ((Touch.refl _ _).alloc _) (by simp) (by simp))
          have HBW : Hid (Below w.heap.size w W) := Lib.hid (by rw [hW]; exact hB.alloc hBs2 _)
          have hzW : W.heap.size = wr.heap.size + 1 := by rw [hW]; simp
          have HFQ := Lib.hid hfq
          clear hL hB hfq
          subst hW
          clear hzW
          go_wp2_with (first
            | (go_at_call 7; refine (hitLoad w.heap.size fq _ 7 sj _ HL2.out).mono ?_; rintro e w2 ⟨rfl, ⟨fq2, hA2, hfq2⟩, ht2⟩; have hs2 := ht2.size; have HA2 := Lib.hid hA2; have HF2 := Lib.hid hfq2; have HT2 := Lib.hid ht2; clear hA2 hfq2 ht2)
            | fail)
          refine ⟨⟨n + 1, fq2, by omega, by go_num, by go_num, ?_, ?_, ?_⟩, by simp [intOf]; omega⟩
          · have := HA2.out
            rw [HSK.out, HHK.out] at this
            exact this
          · intro x hx
            rcases HF2.out x hx with h | h
            · exact HFQ.out x h
            · simp at h; omega
          · exact HBW.out.trans (HT2.out.below (by simp; omega) (by rintro k (rfl | hk); exact Nat.le_refl _; exact HFQ.out k hk))
        · obtain rfl : n = h := by omega
          have HL2 := Lib.hid hL
          have HF2 := Lib.hid hfq
          have HB2 := Lib.hid hB
          clear hL hfq hB
          go_wp2_with fail
          refine ⟨⟨j + 1, fq, by omega, by go_num, ?_, ?_, HF2.out, HB2.out⟩, by simp [intOf]; omega⟩
          · rw [HTJ.out, sumN_app]; simp [sumN]
          · rw [HTJ.out]; exact HL2.out
    · obtain rfl : j = xs.length := by omega
      rw [← hcl, List.take_length] at hL
      rw [← hcl, List.take_length]
      have hS0 := sumN_nonneg cs
      have hS1 := sumN_le cs HCB.out
      rw [hcl] at hS1
      obtain ⟨S, hS⟩ : ∃ S, S = sumN cs := ⟨_, rfl⟩
      have hkl : (kof (km 0 cs)).length ≤ 1000 := by unfold kof; split <;> simp
      have hkw : ∀ p ∈ kof (km 0 cs), (Lit.int .i64 p.1).wf = true := by
        intro p hp
        unfold kof at hp
        split at hp
        · cases hp
        · simp at hp; subst hp; rfl
      rw [← hS] at hS0 hS1
      rw [← hS]
      have HL2 := Lib.hid hL
      have HKW := Lib.hid hkw
      clear hL hkw
      by_cases hSz : S = 0
      · subst hSz
        have hk0 : kof (km 0 cs) = [] := by rw [km_nil_of hS.symm 0]; rfl
        have HK0 := Lib.hid hk0
        clear hk0 hS
        go_wp2_with (first
          | (go_at_call 14; refine (tableLoad _ _ _ _ HL2.out hkl HKW.out).mono ?_; rintro e w3 ⟨v3, rfl, hrow3, hb3⟩; rw [HK0.out] at hrow3; obtain ⟨A3, k3, rfl, _, _, _⟩ := own_slice hrow3; clear hrow3)
          | (go_at_call 16; refine (loadKKnown _).mono ?_; rintro e wk ⟨rfl, hbk⟩) | fail)
        go_ret
        exact ⟨rfl, (hB.trans (hb3.mono hBs)).trans (hbk.mono (by have := hb3.size; omega))⟩
      · have hm : sumM (km 0 cs) = S := by rw [sumM_km, hS]
        obtain ⟨jj, g1, g2, g3, g4⟩ := mid_km S 0 0 cs (by rw [← hS]; omega) (by omega)
        rw [Nat.zero_add] at g2
        have hne : km 0 cs ≠ [] := fun e => hSz (by rw [← hm, e]; rfl)
        have hK : kof (km 0 cs) = [(7, km 0 cs)] := by unfold kof; rw [if_neg hne]
        obtain ⟨sj, hsj⟩ : ∃ x : ByteArray, x = ⟨#[UInt8.ofNat (97 + jj)]⟩ := ⟨_, rfl⟩
        have htab : flatR (tabK (kof (km 0 cs))) = [.int .i64 7, .int .i64 S, .string sj] := by
          rw [hK, hsj]
          simp only [tabK, rowK, List.map_cons, List.map_nil, hm, g2, flatR, List.flatMap_cons, List.flatMap_nil, rowV]
          rfl
        have hlen1 : (kof (km 0 cs)).length = 1 := by rw [hK]; rfl
        have htk1 : sumN (cs.take (jj + 1)) = sumN (cs.take jj) + (cs[jj] : Nat) := by
          rw [List.take_add_one, sumN_app, List.getElem?_eq_getElem g1]; simp [sumN]
        have hjx : jj < xs.length := by omega
        have hcj : cs[jj] = low4 xs[jj] := by have := HCI.out jj hjx; rw [List.getElem?_eq_getElem g1] at this; injection this
        rw [htk1, hcj] at g4
        have hsb := sumN_nonneg (cs.take jj)
        have hs1 : sj.size = 1 := by rw [hsj]; rfl
        have hmj : ∀ h : 0 < sj.size, wrap64 (wrap64 ((sj[0]'h).toNat : Int) - 97) = (jj : Int) := fun h => letter_wrap (letter_at jj (by omega) sj hsj h) (by omega) (by omega)
        have HMJ := Lib.hid hmj
        clear hmj
        have HSJ := Lib.hid hsj
        clear hsj
        have HTAB := Lib.hid htab
        have HLEN := Lib.hid hlen1
        clear hm g2 hne hK htab hlen1 htk1 hcj
        obtain ⟨qb, qo, rfl, hqb, e1⟩ := int_at HX.out hjx
        go_wp2_with (first
          | (go_at_call 14; refine (tableLoad _ _ _ _ HL2.out hkl HKW.out).mono ?_; rintro e w3 ⟨v3, rfl, hrow3, hb3⟩; rw [HTAB.out, HLEN.out] at hrow3; obtain ⟨ga, ka, rfl, _, hga, _, _⟩ := own_form hrow3 (by omega); have r1 := hrow3.cellAt 1 (by omega); have r2 := hrow3.cellAt 2 (by omega); simp only [List.getElem?_cons_succ, List.getElem?_cons_zero] at r1 r2; have hs3 := hb3.size; clear hrow3)
          | fail)
        have HB3 : Hid (Below w.heap.size w w3) := Lib.hid (hB.trans (hb3.mono hBs))
        have q5 := bkeep HB3.out e1 hqb
        rw [HMJ.out (by omega)]
        clear hB hb3 r1 r2
        go_loopw [9, 10] (fun nn i wq => ∃ k : Nat, k ≤ jj ∧ i = .int .i64 k ∧ nn = .int .i64 (sumN (cs.take k)) ∧ wq = w3) (fun _ i _ => jj - (intOf i).toNat)
        case atStart => exact ⟨0, Nat.zero_le _, rfl, rfl, rfl⟩
        case round =>
          obtain ⟨k, hk, rfl, rfl, hw⟩ := hrel
          subst hw
          have hkb := sumN_nonneg (cs.take k)
          have hkb2 : sumN (cs.take k) ≤ 15 * k := by
            have := sumN_le (cs.take k) (fun n hn => HCB.out n (List.mem_of_mem_take hn))
            rw [List.length_take] at this; omega
          by_cases hkj : k < jj
          · have hkx : k < xs.length := by omega
            obtain ⟨qb', qo', e9, _, e2⟩ := int_at HX.out hkx
            injection e9 with e9; injection e9 with e7 e8
            subst e7 e8
            have e3 := bkeep HB3.out e2 hqb
            have htk1 : sumN (cs.take (k + 1)) = sumN (cs.take k) + (low4 xs[k] : Nat) := by
              rw [List.take_add_one, sumN_app, HCI.out k hkx]; simp [sumN]
            obtain ⟨z, hz⟩ : ∃ z, z = xs[k] := ⟨_, rfl⟩
            rw [← hz] at e2 e3 htk1
            obtain ⟨h, hh⟩ : ∃ h, h = low4 z := ⟨_, rfl⟩
            have hl4 := low4_lt z
            have hand : bits BinOp.and IntKind.i64 z 15 = (h : Int) := by rw [and15, hh]; exact low4_eq z
            rw [← hh] at htk1 hl4
            have HTK := Lib.hid htk1
            have q6 : (k : Int) < (jj : Int) := by omega
            have q7 : (k : Int) < (xs.length : Int) := by omega
            clear hh hz htk1
            go_wp2_with fail
            exact ⟨⟨k + 1, by omega, by go_num, by rw [HTK.out], trivial⟩, by simp [intOf]; omega⟩
          · obtain rfl : k = jj := by omega
            obtain ⟨z, hz⟩ : ∃ z, z = xs[k] := ⟨_, rfl⟩
            rw [← hz] at e1 q5 g4
            obtain ⟨h, hh⟩ : ∃ h, h = low4 z := ⟨_, rfl⟩
            have hl4 := low4_lt z
            have hand : bits BinOp.and IntKind.i64 z 15 = (h : Int) := by rw [and15, hh]; exact low4_eq z
            rw [← hh] at g4 hl4
            have q7 : (k : Int) < (xs.length : Int) := by omega
            have hn0 : (0 : Int) ≤ (k : Int) := by omega
            have q8 : ¬ S ≤ 2 * sumN (cs.take k) := by omega
            have q9 : S ≤ 2 * (sumN (cs.take k) + (h : Int)) := by omega
            clear hh hz
            go_wp2_with (first | (go_at_call 16; refine (loadKKnown _).mono ?_; rintro e wk ⟨rfl, hbk⟩) | fail)
            go_ret
            exact ⟨rfl, HB3.out.trans (hbk.mono HB3.out.size)⟩
end Go.Proofs.Ytfakfnekcgkelaa
