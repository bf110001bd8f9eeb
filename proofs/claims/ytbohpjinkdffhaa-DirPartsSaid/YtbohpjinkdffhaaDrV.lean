/- DirEpochs: the walk. -/
import Derived.Test.YtbohpjinkdffhaaDrU
import Derived.Deep.DeepCutAuto
namespace Go.Proofs.Ytbohpjinkdffhaa
open Go.RowKit
set_option linter.unusedVariables false
set_option linter.unusedSimpArgs false

/-- what Apply answers, in one word -/
theorem ApQ.one {B d : Nat} {hv zv : Value} {hosts : List Int} {m : Mp} {c : Ch} {w : World} {e : Ending} {w' : World} (h : ApQ B d hv zv hosts m c w e w') (hd : DrH w B d hv zv hosts m) :
    ∃ (b : Bool) (m' : Mp) (zv' : Value), e = .returned (.bool b) ∧ DrH w' B d hv zv' hosts m' ∧ (b = true → Applies hosts m c m') ∧ (b = false → m' = m ∧ ∀ m1, ¬ Applies hosts m c m1) ∧ Touch (Fz d zv) w w' := by
  rcases h with ⟨m2, zv', h1, h2, h3, h4, h5⟩ | ⟨h1, h2, h3⟩
  · exact ⟨true, m2, zv', h2, h3, fun _ => h1, fun h => (by cases h), h4⟩
  · exact ⟨false, m, zv, h2, hd.below h3, fun h => (by cases h), fun _ => ⟨rfl, h1⟩, (Touch.of_below h3).mono'' (fun k h1 h2 => absurd h2 (by omega))⟩
theorem host4 {w : World} : (w.alloc (.cells #[.int .i64 8, .int .i64 9, .int .i64 10, .int .i64 11] 3)).ownsRow w.heap.size 3 1 (.slice (some ⟨w.heap.size, 0, none⟩) 4 4) ([8, 9, 10, 11] : List Int).length (intsV [8, 9, 10, 11]) := World.ownsRow_lit w #[.int .i64 8, .int .i64 9, .int .i64 10, .int .i64 11] 4 (Nat.le_refl _) (by unfold maxLen; omega) rfl
set_option maxHeartbeats 20000000 in
set_option maxRecDepth 10000 in
theorem walkDirEpochs (A : Option Addr) (c : Nat) (xs : List Ch) (w : World) (hx : Cells w w.heap.size A xs.length c 5 (xs.flatMap chV)) :
    Calls Try.prog 7 #[.slice A xs.length c] w fun e w' => e = .returned (.bool true) ∧ Below w.heap.size w w' := by
  have HX := Lib.hid hx
  clear hx
  go_enter Try.func7, Try.ntmps7
  go_wp2_with (first
    | (go_at_call 9; refine (drHeavy A c xs _ HX.out).mono ?_; rintro e w0 ⟨hb, rfl, hb0⟩; have HB0 := Lib.hid hb0; have hs0 := hb0.size; clear hb0)
    | (go_at_call 29; refine (drNew1 w0.heap.size _ [8, 9, 10, 11] _ host4 (by decide)).mono ?_; rintro e w1 ⟨d, hv, zv, rfl, hd1, hb1⟩; have HD1 := Lib.hid hd1; have HB1 := Lib.hid hb1; have hs1 := hb1.size; clear hd1 hb1)
    | fail)
  · go_ret
    exact ⟨rfl, HB0.out⟩
  have hB1 : Below w.heap.size w w1 := HB0.out.trans ((((Below.refl _ _).alloc (Nat.le_refl _) _).trans (HB1.out.mono (by simp))).mono hs0)
  have HW1 := Lib.hid hB1
  obtain ⟨b0, hb0⟩ : ∃ b, b = (w0.alloc (.cells #[.int .i64 8, .int .i64 9, .int .i64 10, .int .i64 11] 3)).heap.size := ⟨_, rfl⟩
  rw [← hb0] at HD1
  have hs1' : b0 ≤ w1.heap.size := by rw [hb0]; exact hs1
  have hlow : w.heap.size < b0 := by rw [hb0]; simp; omega
  clear hb0 hB1
  go_loopw [5] (fun iv wr => ∃ (i : Nat) (m : Mp) (zv : Value), i ≤ min xs.length 100 ∧ iv = .int .i64 i ∧ DrH wr b0 d hv zv [8, 9, 10, 11] m ∧ InvZ m ∧ OkN m ∧ m.ver ≤ 1099511627776 ∧ b0 ≤ wr.heap.size ∧ Below w.heap.size w wr) (fun iv _ => min xs.length 100 - (intOf iv).toNat)
  case atStart => exact ⟨0, _, _, Nat.zero_le _, rfl, HD1.out, mp1_inv _, OkN.begin _, by decide, hs1', HW1.out⟩
  case round =>
    obtain ⟨i, m, zv, hil, rfl, hD, hI, hN, hV, hb0r, hBw⟩ := hrel
    have HD := Lib.hid hD
    have HI := Lib.hid hI
    have HN := Lib.hid hN
    have HW := Lib.hid hBw
    have hver0 := hN.ver
    have hlen : m.zs.length ≤ 16 := by have := hN.sum; omega
    have hone := hN.one
    have hdl := hD.blk.low
    by_cases hlt : i < min xs.length 100
    · have q3 : (i : Int) < (xs.length : Int) := by omega
      have q4 : (i : Int) < 100 := by omega
      obtain ⟨qb, qo, rfl, hqb, c0, c1, c2, c3, c4⟩ := ch_at HX.out (show i < xs.length by omega)
      have c0 := bkeep hBw c0 hqb
      have c1 := bkeep hBw c1 hqb
      have c2 := bkeep hBw c2 hqb
      have c3 := bkeep hBw c3 hqb
      have c4 := bkeep hBw c4 hqb
      obtain ⟨cc, hcc⟩ : ∃ k, k = xs[i]'(by omega) := ⟨_, rfl⟩
      rw [← hcc] at c0 c1 c2 c3 c4
      have hqw := Nat.lt_of_lt_of_le hqb hBw.size
      have hsw := hBw.size
      clear hBw hcc hD hI hN
      go_upto_region 12 with (first
        | (go_at_call 12; have hgg := HD3; clear hgg; refine (drMap b0 d hv zv3 _ m3 _ HD3.out (by omega)).mono ?_; rintro e w4 ⟨vb, rfl, hob, hb4⟩; obtain ⟨gb, cb, rfl, _, hgb, _, _⟩ := own_form hob (by omega); have HOB := Lib.hid hob; have HB4 := Lib.hid hb4; obtain ⟨hc4, hf4⟩ := bcell hb4; have hs4 := hb4.size; clear hob hb4)
        | (go_at_call 16; refine (drApply b0 d hv zv _ m cc _ ((HD.out.below HB2.out).below (Below.alloc (Below.refl _ _) (Nat.le_refl _) _)) (by have := HB2.out.size; simp; omega) HN.out.okm (by decide)).mono ?_; rintro e w3 hq; obtain ⟨bb, m3, zv3, rfl, hd3, hyes, hno, ht3⟩ := hq.one ((HD.out.below HB2.out).below (Below.alloc (Below.refl _ _) (Nat.le_refl _) _)); have HD3 := Lib.hid hd3; have HT3 := Lib.hid ht3; have HYES := Lib.hid hyes; have HNO := Lib.hid hno; have hs3 := ht3.size; have hN3 : OkN m3 := (by cases bb with | true => exact (hyes rfl).okn HN.out | false => rw [(hno rfl).1]; exact HN.out); have HN3 := Lib.hid hN3; have hl3 : m3.zs.length ≤ 16 ∧ 1 ≤ m3.zs.length := (by have := hN3.sum; have := hN3.one; omega); clear hq hd3 ht3 hyes hno hN3)
        | (go_at_call 12; refine (drMap b0 d hv zv _ m _ HD.out (by omega)).mono ?_; rintro e w2 ⟨va, rfl, hoa, hb2⟩; obtain ⟨ga, ca, rfl, _, hga, _, _⟩ := own_form hoa (by omega); have HOA := Lib.hid hoa; have HB2 := Lib.hid hb2; have hs2 := hb2.size; have c0 := bkeep hb2 c0 hqw; have c1 := bkeep hb2 c1 hqw; have c2 := bkeep hb2 c2 hqw; have c3 := bkeep hb2 c3 hqw; have c4 := bkeep hb2 c4 hqw; clear hoa hb2)
        | fail)
      have hFz : ∀ k, Fz d zv k → k < wr.heap.size := fun k hk => by
        rcases hk with h | h
        · omega
        · exact (HD.out.row.lt k h).2
      have hga1 : wr.heap.size ≤ ga := (HOA.out.lt ga rfl).1
      have hA2 : Whl (w2.alloc (.cells #[.int .i64 m.ver, .int .i64 m.nxt, .slice (some ⟨ga, 0, none⟩) m.zs.length ca] 33)) w2.heap.size 33 #[.int .i64 m.ver, .int .i64 m.nxt, .slice (some ⟨ga, 0, none⟩) m.zs.length ca] := Whl.new rfl
      have hA3 : Whl w3 w2.heap.size 33 #[.int .i64 m.ver, .int .i64 m.nxt, .slice (some ⟨ga, 0, none⟩) m.zs.length ca] := (HT3.out.block _ (by simp) (fun h => by have := hFz _ h; omega)).trans hA2
      have hA4 : Whl (w4.alloc (.cells #[.int .i64 m3.ver, .int .i64 m3.nxt, .slice (some ⟨gb, 0, none⟩) m3.zs.length cb] 33)) w2.heap.size 33 #[.int .i64 m.ver, .int .i64 m.nxt, .slice (some ⟨ga, 0, none⟩) m.zs.length ca] := (hA3.below HB4.out (Nat.lt_of_lt_of_le (by simp) hs3)).alloc _
      have hB4' : Whl (w4.alloc (.cells #[.int .i64 m3.ver, .int .i64 m3.nxt, .slice (some ⟨gb, 0, none⟩) m3.zs.length cb] 33)) w4.heap.size 33 #[.int .i64 m3.ver, .int .i64 m3.nxt, .slice (some ⟨gb, 0, none⟩) m3.zs.length cb] := Whl.new rfl
      have hrA : ((w4.alloc (.cells #[.int .i64 m3.ver, .int .i64 m3.nxt, .slice (some ⟨gb, 0, none⟩) m3.zs.length cb] 33))).ownsRow wr.heap.size 39 9 (.slice (some ⟨ga, 0, none⟩) m.zs.length ca) m.zs.length (flatZ m.zs) := (row_belowZ (HT3.out.own (HOA.out.alloc _) (fun q hq h => by have := hFz _ h; have e : ga = q := (by simpa [Value.ownBlock] using hq); omega)) HB4.out).alloc _
      have hrB : ((w4.alloc (.cells #[.int .i64 m3.ver, .int .i64 m3.nxt, .slice (some ⟨gb, 0, none⟩) m3.zs.length cb] 33))).ownsRow w3.heap.size 39 9 (.slice (some ⟨gb, 0, none⟩) m3.zs.length cb) m3.zs.length (flatZ m3.zs) := HOB.out.alloc _
      have hDV : DrH (w4.alloc (.cells #[.int .i64 m3.ver, .int .i64 m3.nxt, .slice (some ⟨gb, 0, none⟩) m3.zs.length cb] 33)) b0 d hv zv3 [8, 9, 10, 11] m3 := (HD3.out.below HB4.out).below (Below.alloc (Below.refl _ _) (Nat.le_refl _) _)
      have hWV : Below w.heap.size w (w4.alloc (.cells #[.int .i64 m3.ver, .int .i64 m3.nxt, .slice (some ⟨gb, 0, none⟩) m3.zs.length cb] 33)) := by
        have e1 : Below w.heap.size w (w2.alloc (.cells #[.int .i64 m.ver, .int .i64 m.nxt, .slice (some ⟨ga, 0, none⟩) m.zs.length ca] 33)) := (HW.out.trans (HB2.out.mono hsw)).alloc (by omega) _
        have e2 : Below w.heap.size w w3 := e1.trans (HT3.out.below e1.size (fun k hk => by
          rcases hk with h | h
          · have := HD.out.low; omega
          · have := (HD.out.row.lt k h).1; omega))
        exact (e2.trans (HB4.out.mono e2.size)).alloc (by have := HB4.out.size; have := e2.size; omega) _
      have hI3 : InvZ m3 := by
        cases bb with
        | true => exact (HYES.out rfl).inv HI.out
        | false => rw [(HNO.out rfl).1]; exact HI.out
      have hV3 : m3.ver ≤ 1099511627776 := by
        cases bb with
        | true =>
          obtain ⟨i9, hi9, _, _, m9, hd9, e9⟩ := (HYES.out rfl).deed
          have h9 := hd9.ver
          have h8 := (HYES.out rfl).ver
          unfold topN at h8
          have h7 : m3.ver = m9.ver + 1 := by rw [e9]
          omega
        | false => rw [(HNO.out rfl).1]; exact hV
      have hEP : ∀ x ∈ m.zs, ∀ y ∈ m3.zs, x.id = y.id → EpOk x y := by
        cases bb with
        | true => exact (HYES.out rfl).eps HI.out
        | false =>
          rw [(HNO.out rfl).1]
          intro x hx y hy e
          rw [idsA_inj HI.out.nodup hx hy e]; exact EpOk.refl _
      have HA4 := Lib.hid hA4
      have HB5 := Lib.hid hB4'
      have HRA := Lib.hid hrA
      have HRB := Lib.hid hrB
      have HDV := Lib.hid hDV
      have HWV := Lib.hid hWV
      have HI3 := Lib.hid hI3
      have HEP := Lib.hid hEP
      have hNA := hA4.low
      have hNB := hB4'.low
      have hgaV := (hrA.lt ga rfl).2
      have hgbV := (hrB.lt gb rfl).2
      have hbV : b0 ≤ ((w4.alloc (.cells #[.int .i64 m3.ver, .int .i64 m3.nxt, .slice (some ⟨gb, 0, none⟩) m3.zs.length cb] 33))).heap.size := by have := HB4.out.size; have := HT3.out.size; simp at this ⊢; omega
      have k0 := hA4.cell 0
      have k1 := hA4.cell 1
      have k2 := hA4.cell 2
      have n0 := hB4'.cell 0
      have n1 := hB4'.cell 1
      have n2 := hB4'.cell 2
      simp only [List.getElem?_toArray, List.getElem?_cons_succ, List.getElem?_cons_zero] at k0 k1 k2 n0 n1 n2
      obtain ⟨NA, hNAe⟩ : ∃ n, n = w2.heap.size := ⟨_, rfl⟩
      obtain ⟨NB, hNBe⟩ : ∃ n, n = w4.heap.size := ⟨_, rfl⟩
      rw [← hNAe] at k0 k1 k2 hNA ⊢
      rw [← hNBe] at n0 n1 n2 hNB ⊢
      clear hA2 hA3 hA4 hB4' hrA hrB hDV hWV hI3 hEP hFz hga1 c0 c1 c2 c3 c4 hc4 hf4 hs4 hs3 hga hgb hNAe hNBe hs2 hqw hdl
      generalize (w4.alloc (.cells #[.int .i64 m3.ver, .int .i64 m3.nxt, .slice (some ⟨gb, 0, none⟩) m3.zs.length cb] 33)) = V at *
      go_cut [63] (fun r wx => r = .bool false ∧ Below V.heap.size V wx)
      case first =>
        cases bb with
        | true =>
          have hmv : m3.ver = m.ver + 1 := by
            obtain ⟨i9, hi9, _, _, m9, hd9, e9⟩ := (HYES.out rfl).deed
            have h9 := hd9.ver
            rw [e9, ← h9]
          have hwv : IntKind.i64.wrap (m.ver + 1) = m.ver + 1 := by rw [IntKind.wrap_i64]; omega
          rw [hmv] at n0
          go_wp2_with fail
          go_meet
          exact ⟨rfl, Below.refl _ _⟩
        | false =>
          obtain rfl := (HNO.out rfl).1
          have hwv : IntKind.i64.wrap (m3.ver + 1) = m3.ver + 1 := by rw [IntKind.wrap_i64]; omega
          have hne : (m3.ver == m3.ver + 1) = false := by simp; omega
          go_wp2_with (first
            | (go_at_call 27; refine (drMaps _ _ m3.zs _ _ _ _ _ HRA.out HRB.out (by omega)).mono ?_; rintro e w5 ⟨rfl, hb5⟩; have HB55 := Lib.hid hb5; clear hb5)
            | fail)
          go_meet
          exact ⟨rfl, HB55.out⟩
      case rest =>
        obtain ⟨rfl, hbx⟩ := hcut
        have HBX := Lib.hid hbx
        clear hbx
        go_wp2_with fail
        go_loopw [9] (fun kv wk => ∃ k : Nat, k ≤ m.zs.length ∧ kv = .int .i64 k ∧ Below V.heap.size V wk) (fun kv _ => m.zs.length - (intOf kv).toNat)
        case atStart => exact ⟨0, Nat.zero_le _, rfl, HBX.out⟩
        case round =>
          obtain ⟨k, hkl, rfl, hBk⟩ := hrel
          have HBK := Lib.hid hBk
          have k2k := bkeep hBk k2 hNA
          clear hBk
          by_cases hkt : k < m.zs.length
          · have q5 : (k : Int) < (m.zs.length : Int) := by omega
            go_wp2_with fail
            go_loopw [10] (fun jv wj => ∃ j : Nat, j ≤ m3.zs.length ∧ jv = .int .i64 j ∧ Below V.heap.size V wj) (fun jv _ => m3.zs.length - (intOf jv).toNat)
            case atStart => exact ⟨0, Nat.zero_le _, rfl, HBK.out⟩
            case round =>
              obtain ⟨j, hjl, rfl, hBj⟩ := hrel
              have HBJ := Lib.hid hBj
              have k2j := bkeep hBj k2 hNA
              have n2j := bkeep hBj n2 hNB
              have hrA := row_belowZ HRA.out hBj
              have hrB := row_belowZ HRB.out hBj
              have hVj := hBj.size
              clear hBj
              by_cases hjt : j < m3.zs.length
              · have q6 : (j : Int) < (m3.zs.length : Int) := by omega
                obtain ⟨x, hx⟩ : ∃ z, z = m.zs[k] := ⟨_, rfl⟩
                obtain ⟨y, hy⟩ : ∃ z, z = m3.zs[j] := ⟨_, rfl⟩
                obtain ⟨v0, v1, v2, v3, v4, v5, v6, v7, v8⟩ := rowZ_at hrA hkt
                obtain ⟨u0, u1, u2, u3, u4, u5, u6, u7, u8⟩ := rowZ_at hrB hjt
                rw [← hx] at v0 v1 v2 v3 v4 v5 v6 v7 v8
                rw [← hy] at u0 u1 u2 u3 u4 u5 u6 u7 u8
                have HXX := Lib.hid hx
                have HYY := Lib.hid hy
                have hgaj : ga < wr.heap.size := Nat.lt_of_lt_of_le hgaV hVj
                have hgbj : gb < wr.heap.size := Nat.lt_of_lt_of_le hgbV hVj
                have hNAj : NA < wr.heap.size := Nat.lt_of_lt_of_le hNA hVj
                have hNBj : NB < wr.heap.size := Nat.lt_of_lt_of_le hNB hVj
                clear hx hy hrA hrB
                go_upto_region 20 with fail
                have HKP := Lib.hid (show ∀ W, Below wr.heap.size wr W → (fun W => Below wr.heap.size wr W ∧ W.cell? ⟨NA, 2, none⟩ = some (.slice (some ⟨ga, 0, none⟩) m.zs.length ca) ∧ W.cell? ⟨NB, 2, none⟩ = some (.slice (some ⟨gb, 0, none⟩) m3.zs.length cb) ∧ W.cell? ⟨ga, k * 9, none⟩ = some (.int .i64 x.id) ∧ W.cell? ⟨ga, k * 9 + 1, none⟩ = some (.string x.fr) ∧ W.cell? ⟨ga, k * 9 + 2, none⟩ = some (.string x.tt) ∧ W.cell? ⟨ga, k * 9 + 3, none⟩ = some (.int .i64 x.ow) ∧ W.cell? ⟨ga, k * 9 + 4, none⟩ = some (.int .i64 x.ep) ∧ W.cell? ⟨ga, k * 9 + 5, none⟩ = some (.int .i64 x.pd) ∧ W.cell? ⟨ga, k * 9 + 6, none⟩ = some (.int .i64 x.mv) ∧ W.cell? ⟨ga, k * 9 + 7, none⟩ = some (.string x.ky) ∧ W.cell? ⟨ga, k * 9 + 8, none⟩ = some (.int .i64 x.nw) ∧ W.cell? ⟨gb, j * 9, none⟩ = some (.int .i64 y.id) ∧ W.cell? ⟨gb, j * 9 + 1, none⟩ = some (.string y.fr) ∧ W.cell? ⟨gb, j * 9 + 2, none⟩ = some (.string y.tt) ∧ W.cell? ⟨gb, j * 9 + 3, none⟩ = some (.int .i64 y.ow) ∧ W.cell? ⟨gb, j * 9 + 4, none⟩ = some (.int .i64 y.ep) ∧ W.cell? ⟨gb, j * 9 + 5, none⟩ = some (.int .i64 y.pd) ∧ W.cell? ⟨gb, j * 9 + 6, none⟩ = some (.int .i64 y.mv) ∧ W.cell? ⟨gb, j * 9 + 7, none⟩ = some (.string y.ky) ∧ W.cell? ⟨gb, j * 9 + 8, none⟩ = some (.int .i64 y.nw)) W from fun W hh => ⟨hh, bkeep hh k2j hNAj, bkeep hh n2j hNBj, bkeep hh v0 hgaj, bkeep hh v1 hgaj, bkeep hh v2 hgaj, bkeep hh v3 hgaj, bkeep hh v4 hgaj, bkeep hh v5 hgaj, bkeep hh v6 hgaj, bkeep hh v7 hgaj, bkeep hh v8 hgaj, bkeep hh u0 hgbj, bkeep hh u1 hgbj, bkeep hh u2 hgbj, bkeep hh u3 hgbj, bkeep hh u4 hgbj, bkeep hh u5 hgbj, bkeep hh u6 hgbj, bkeep hh u7 hgbj, bkeep hh u8 hgbj⟩)
                go_cut [11, 12] (fun p q wx => Below wr.heap.size wr wx ∧ ∃ P Q : Nat, p = .pointer (some ⟨P, 0, none⟩) ∧ q = .pointer (some ⟨Q, 0, none⟩) ∧ Whl wx P 39 #[.int .i64 x.id, .string x.fr, .string x.tt, .int .i64 x.ow, .int .i64 x.ep, .int .i64 x.pd, .int .i64 x.mv, .string x.ky, .int .i64 x.nw] ∧ Whl wx Q 39 #[.int .i64 y.id, .string y.fr, .string y.tt, .int .i64 y.ow, .int .i64 y.ep, .int .i64 y.pd, .int .i64 y.mv, .string y.ky, .int .i64 y.nw])
                case first =>
                  refine wp_region_held_drew (S := (fun W => Below wr.heap.size wr W ∧ W.cell? ⟨NA, 2, none⟩ = some (.slice (some ⟨ga, 0, none⟩) m.zs.length ca) ∧ W.cell? ⟨NB, 2, none⟩ = some (.slice (some ⟨gb, 0, none⟩) m3.zs.length cb) ∧ W.cell? ⟨ga, k * 9, none⟩ = some (.int .i64 x.id) ∧ W.cell? ⟨ga, k * 9 + 1, none⟩ = some (.string x.fr) ∧ W.cell? ⟨ga, k * 9 + 2, none⟩ = some (.string x.tt) ∧ W.cell? ⟨ga, k * 9 + 3, none⟩ = some (.int .i64 x.ow) ∧ W.cell? ⟨ga, k * 9 + 4, none⟩ = some (.int .i64 x.ep) ∧ W.cell? ⟨ga, k * 9 + 5, none⟩ = some (.int .i64 x.pd) ∧ W.cell? ⟨ga, k * 9 + 6, none⟩ = some (.int .i64 x.mv) ∧ W.cell? ⟨ga, k * 9 + 7, none⟩ = some (.string x.ky) ∧ W.cell? ⟨ga, k * 9 + 8, none⟩ = some (.int .i64 x.nw) ∧ W.cell? ⟨gb, j * 9, none⟩ = some (.int .i64 y.id) ∧ W.cell? ⟨gb, j * 9 + 1, none⟩ = some (.string y.fr) ∧ W.cell? ⟨gb, j * 9 + 2, none⟩ = some (.string y.tt) ∧ W.cell? ⟨gb, j * 9 + 3, none⟩ = some (.int .i64 y.ow) ∧ W.cell? ⟨gb, j * 9 + 4, none⟩ = some (.int .i64 y.ep) ∧ W.cell? ⟨gb, j * 9 + 5, none⟩ = some (.int .i64 y.pd) ∧ W.cell? ⟨gb, j * 9 + 6, none⟩ = some (.int .i64 y.mv) ∧ W.cell? ⟨gb, j * 9 + 7, none⟩ = some (.string y.ky) ∧ W.cell? ⟨gb, j * 9 + 8, none⟩ = some (.int .i64 y.nw))) (by kernel_rfl) (HKP.out _ (Below.drew (Below.refl _ _))) (fun hHeld => ?_)
                  refine wpAnyH_take (i := 0) (oi := ⟨some 78, _, _, _, _, _⟩) (v := ?v0r_1) rfl (by kernel_rfl) (by kernel_rfl) (by kernel_rfl) (fun _ _ _ h => h) (Or.inl ⟨by rfl, ?y0r_1⟩) (by assumption) ?r0r_1
                  case y0r_1 => (intro w hSw; (try dsimp only at hSw); (try go_split_ands); go_simp); (try with_reducible rfl)
                  case r0r_1 =>
                  (try simp only [Act.put, List.setIfInBounds_toArray, List.set_cons_zero, List.set_cons_succ])
                  refine wpAnyH_take (i := 1) (oi := ⟨some 79, _, _, _, _, _⟩) (v := ?v1r_4) rfl (by kernel_rfl) (by kernel_rfl) (by kernel_rfl) (fun _ _ _ h => h) (Or.inl ⟨by rfl, ?y1r_4⟩) (by assumption) ?r1r_4
                  case y1r_4 => (intro w hSw; (try dsimp only at hSw); (try go_split_ands); go_simp); (try with_reducible rfl)
                  case r1r_4 =>
                  (try simp only [Act.put, List.setIfInBounds_toArray, List.set_cons_zero, List.set_cons_succ])
                  refine wpAnyH_take (i := 2) (oi := ⟨some 80, _, _, _, _, _⟩) (v := ?v2r_7) rfl (by kernel_rfl) (by kernel_rfl) (by kernel_rfl) (fun _ _ _ h => h) (Or.inl ⟨by rfl, ?y2r_7⟩) (by assumption) ?r2r_7
                  case y2r_7 => (intro w hSw; (try dsimp only at hSw); (try go_split_ands); go_simp); (try with_reducible rfl)
                  case r2r_7 =>
                  (try simp only [Act.put, List.setIfInBounds_toArray, List.set_cons_zero, List.set_cons_succ])
                  refine wpAnyH_take (i := 3) (oi := ⟨some 81, _, _, _, _, _⟩) (v := ?v3r_10) rfl (by kernel_rfl) (by kernel_rfl) (by kernel_rfl) (fun _ _ _ h => h) (Or.inl ⟨by rfl, ?y3r_10⟩) (by assumption) ?r3r_10
                  case y3r_10 => (intro w hSw; (try dsimp only at hSw); (try go_split_ands); go_simp); (try with_reducible rfl)
                  case r3r_10 =>
                  (try simp only [Act.put, List.setIfInBounds_toArray, List.set_cons_zero, List.set_cons_succ])
                  refine wpAnyH_take (i := 4) (oi := ⟨some 82, _, _, _, _, _⟩) (v := ?v4r_13) rfl (by kernel_rfl) (by kernel_rfl) (by kernel_rfl) (fun _ _ _ h => h) (Or.inl ⟨by rfl, ?y4r_13⟩) (by assumption) ?r4r_13
                  case y4r_13 => (intro w hSw; (try dsimp only at hSw); (try go_split_ands); go_simp); (try with_reducible rfl)
                  case r4r_13 =>
                  (try simp only [Act.put, List.setIfInBounds_toArray, List.set_cons_zero, List.set_cons_succ])
                  refine wpAnyH_take (i := 5) (oi := ⟨some 83, _, _, _, _, _⟩) (v := ?v5r_16) rfl (by kernel_rfl) (by kernel_rfl) (by kernel_rfl) (fun _ _ _ h => h) (Or.inl ⟨by rfl, ?y5r_16⟩) (by assumption) ?r5r_16
                  case y5r_16 => (intro w hSw; (try dsimp only at hSw); (try go_split_ands); go_simp); (try with_reducible rfl)
                  case r5r_16 =>
                  (try simp only [Act.put, List.setIfInBounds_toArray, List.set_cons_zero, List.set_cons_succ])
                  refine wpAnyH_take (i := 6) (oi := ⟨some 84, _, _, _, _, _⟩) (v := ?v6r_19) rfl (by kernel_rfl) (by kernel_rfl) (by kernel_rfl) (fun _ _ _ h => h) (Or.inl ⟨by rfl, ?y6r_19⟩) (by assumption) ?r6r_19
                  case y6r_19 => (intro w hSw; (try dsimp only at hSw); (try go_split_ands); go_simp); (try with_reducible rfl)
                  case r6r_19 =>
                  (try simp only [Act.put, List.setIfInBounds_toArray, List.set_cons_zero, List.set_cons_succ])
                  refine wpAnyH_take (i := 7) (oi := ⟨some 85, _, _, _, _, _⟩) (v := ?v7r_22) rfl (by kernel_rfl) (by kernel_rfl) (by kernel_rfl) (fun _ _ _ h => h) (Or.inl ⟨by rfl, ?y7r_22⟩) (by assumption) ?r7r_22
                  case y7r_22 => (intro w hSw; (try dsimp only at hSw); (try go_split_ands); go_simp); (try with_reducible rfl)
                  case r7r_22 =>
                  (try simp only [Act.put, List.setIfInBounds_toArray, List.set_cons_zero, List.set_cons_succ])
                  refine wpAnyH_take (i := 8) (oi := ⟨some 86, _, _, _, _, _⟩) (v := ?v8r_25) rfl (by kernel_rfl) (by kernel_rfl) (by kernel_rfl) (fun _ _ _ h => h) (Or.inl ⟨by rfl, ?y8r_25⟩) (by assumption) ?r8r_25
                  case y8r_25 => (intro w hSw; (try dsimp only at hSw); (try go_split_ands); go_simp); (try with_reducible rfl)
                  case r8r_25 =>
                  (try simp only [Act.put, List.setIfInBounds_toArray, List.set_cons_zero, List.set_cons_succ])
                  refine wpAnyH_take (i := 9) (oi := ⟨some 87, _, _, _, _, _⟩) (v := ?v9r_28) rfl (by kernel_rfl) (by kernel_rfl) (by kernel_rfl) (fun _ _ _ h => h) (Or.inl ⟨by rfl, ?y9r_28⟩) (by assumption) ?r9r_28
                  case y9r_28 => (intro w hSw; (try dsimp only at hSw); (try go_split_ands); go_simp); (try with_reducible rfl)
                  case r9r_28 =>
                  (try simp only [Act.put, List.setIfInBounds_toArray, List.set_cons_zero, List.set_cons_succ])
                  refine wpAnyH_ready (rs := [10, 11]) (by kernel_rfl) (by simp) ?_
                  refine AllReadyH.cons (o := ⟨some 11, _, _, _, _, _⟩) rfl (fun K hK => ?_) (AllReadyH.cons (o := ⟨some 12, _, _, _, _, _⟩) rfl (fun K hK => ?_) AllReadyH.nil)
                  · go_simp
                    refine hK.out _ _ (HKP.out _ (by ((repeat (first | (with_reducible exact Below.refl _ _) | (with_reducible assumption) | ((with_reducible refine b_set ?_ ?_); · (first | omega | (simp; done) | (simp; omega))) | ((with_reducible refine b_alloc ?_ ?_); · (first | omega | (simp; done) | (simp; omega))) | (with_reducible refine Below.drew ?_) | (with_reducible refine b_drewN ?_) | ((with_reducible refine b_call (by assumption) ?_ ?_); · (first | omega | (simp; done) | (simp; omega))))); done))) (fun hHeld => ?_)
                    clear hK K
                    (try simp only [Act.put, List.setIfInBounds_toArray, List.set_cons_zero, List.set_cons_succ])
                    refine wpAnyH_ready (rs := [11]) (by kernel_rfl) (by simp) ?_
                    refine AllReadyH.cons (o := ⟨some 12, _, _, _, _, _⟩) rfl (fun K hK => ?_) AllReadyH.nil
                    go_simp
                    refine hK.out _ _ (HKP.out _ (by ((repeat (first | (with_reducible exact Below.refl _ _) | (with_reducible assumption) | ((with_reducible refine b_set ?_ ?_); · (first | omega | (simp; done) | (simp; omega))) | ((with_reducible refine b_alloc ?_ ?_); · (first | omega | (simp; done) | (simp; omega))) | (with_reducible refine Below.drew ?_) | (with_reducible refine b_drewN ?_) | ((with_reducible refine b_call (by assumption) ?_ ?_); · (first | omega | (simp; done) | (simp; omega))))); done))) (fun hHeld => ?_)
                    clear hK K
                    (try simp only [Act.put, List.setIfInBounds_toArray, List.set_cons_zero, List.set_cons_succ])
                    refine wpAnyH_ready (rs := [12]) (by kernel_rfl) (by simp) ?_
                    refine AllReadyH.cons (o := ⟨none, _, _, _, _, _⟩) rfl (fun K hK => ?_) AllReadyH.nil
                    go_simp
                    refine hK.out _ _ (HKP.out _ (by ((repeat (first | (with_reducible exact Below.refl _ _) | (with_reducible assumption) | ((with_reducible refine b_set ?_ ?_); · (first | omega | (simp; done) | (simp; omega))) | ((with_reducible refine b_alloc ?_ ?_); · (first | omega | (simp; done) | (simp; omega))) | (with_reducible refine Below.drew ?_) | (with_reducible refine b_drewN ?_) | ((with_reducible refine b_call (by assumption) ?_ ?_); · (first | omega | (simp; done) | (simp; omega))))); done))) (fun hHeld => ?_)
                    clear hK K
                    (try simp only [Act.put, List.setIfInBounds_toArray, List.set_cons_zero, List.set_cons_succ])
                    refine wpAnyH_ready (rs := [13]) (by kernel_rfl) (by simp) ?_
                    refine AllReadyH.cons (o := ⟨none, _, _, _, _, _⟩) rfl (fun K hK => ?_) AllReadyH.nil
                    go_simp
                    refine hK.out _ _ (HKP.out _ (by ((repeat (first | (with_reducible exact Below.refl _ _) | (with_reducible assumption) | ((with_reducible refine b_set ?_ ?_); · (first | omega | (simp; done) | (simp; omega))) | ((with_reducible refine b_alloc ?_ ?_); · (first | omega | (simp; done) | (simp; omega))) | (with_reducible refine Below.drew ?_) | (with_reducible refine b_drewN ?_) | ((with_reducible refine b_call (by assumption) ?_ ?_); · (first | omega | (simp; done) | (simp; omega))))); done))) (fun hHeld => ?_)
                    clear hK K
                    (try simp only [Act.put, List.setIfInBounds_toArray, List.set_cons_zero, List.set_cons_succ])
                    refine wpAnyH_done (by kernel_rfl) ?_ _
                    go_wp2_with fail
                    go_meet
                    exact ⟨Below.drew (Below.alloc (Below.alloc (Below.refl _ _) (Nat.le_refl _) _) (by simp) _), wr.heap.size, wr.heap.size + 1, rfl, rfl, ((Whl.new rfl).alloc _).drew, (Whl.new (by simp)).drew⟩
                  · go_simp
                    refine hK.out _ _ (HKP.out _ (by ((repeat (first | (with_reducible exact Below.refl _ _) | (with_reducible assumption) | ((with_reducible refine b_set ?_ ?_); · (first | omega | (simp; done) | (simp; omega))) | ((with_reducible refine b_alloc ?_ ?_); · (first | omega | (simp; done) | (simp; omega))) | (with_reducible refine Below.drew ?_) | (with_reducible refine b_drewN ?_) | ((with_reducible refine b_call (by assumption) ?_ ?_); · (first | omega | (simp; done) | (simp; omega))))); done))) (fun hHeld => ?_)
                    clear hK K
                    (try simp only [Act.put, List.setIfInBounds_toArray, List.set_cons_zero, List.set_cons_succ])
                    refine wpAnyH_ready (rs := [10]) (by kernel_rfl) (by simp) ?_
                    refine AllReadyH.cons (o := ⟨some 11, _, _, _, _, _⟩) rfl (fun K hK => ?_) AllReadyH.nil
                    go_simp
                    refine hK.out _ _ (HKP.out _ (by ((repeat (first | (with_reducible exact Below.refl _ _) | (with_reducible assumption) | ((with_reducible refine b_set ?_ ?_); · (first | omega | (simp; done) | (simp; omega))) | ((with_reducible refine b_alloc ?_ ?_); · (first | omega | (simp; done) | (simp; omega))) | (with_reducible refine Below.drew ?_) | (with_reducible refine b_drewN ?_) | ((with_reducible refine b_call (by assumption) ?_ ?_); · (first | omega | (simp; done) | (simp; omega))))); done))) (fun hHeld => ?_)
                    clear hK K
                    (try simp only [Act.put, List.setIfInBounds_toArray, List.set_cons_zero, List.set_cons_succ])
                    refine wpAnyH_ready (rs := [12]) (by kernel_rfl) (by simp) ?_
                    refine AllReadyH.cons (o := ⟨none, _, _, _, _, _⟩) rfl (fun K hK => ?_) AllReadyH.nil
                    go_simp
                    refine hK.out _ _ (HKP.out _ (by ((repeat (first | (with_reducible exact Below.refl _ _) | (with_reducible assumption) | ((with_reducible refine b_set ?_ ?_); · (first | omega | (simp; done) | (simp; omega))) | ((with_reducible refine b_alloc ?_ ?_); · (first | omega | (simp; done) | (simp; omega))) | (with_reducible refine Below.drew ?_) | (with_reducible refine b_drewN ?_) | ((with_reducible refine b_call (by assumption) ?_ ?_); · (first | omega | (simp; done) | (simp; omega))))); done))) (fun hHeld => ?_)
                    clear hK K
                    (try simp only [Act.put, List.setIfInBounds_toArray, List.set_cons_zero, List.set_cons_succ])
                    refine wpAnyH_ready (rs := [13]) (by kernel_rfl) (by simp) ?_
                    refine AllReadyH.cons (o := ⟨none, _, _, _, _, _⟩) rfl (fun K hK => ?_) AllReadyH.nil
                    go_simp
                    refine hK.out _ _ (HKP.out _ (by ((repeat (first | (with_reducible exact Below.refl _ _) | (with_reducible assumption) | ((with_reducible refine b_set ?_ ?_); · (first | omega | (simp; done) | (simp; omega))) | ((with_reducible refine b_alloc ?_ ?_); · (first | omega | (simp; done) | (simp; omega))) | (with_reducible refine Below.drew ?_) | (with_reducible refine b_drewN ?_) | ((with_reducible refine b_call (by assumption) ?_ ?_); · (first | omega | (simp; done) | (simp; omega))))); done))) (fun hHeld => ?_)
                    clear hK K
                    (try simp only [Act.put, List.setIfInBounds_toArray, List.set_cons_zero, List.set_cons_succ])
                    refine wpAnyH_done (by kernel_rfl) ?_ _
                    go_wp2_with fail
                    go_meet
                    exact ⟨Below.drew (Below.alloc (Below.alloc (Below.refl _ _) (Nat.le_refl _) _) (by simp) _), wr.heap.size + 1, wr.heap.size, rfl, rfl, (Whl.new (by simp)).drew, ((Whl.new rfl).alloc _).drew⟩

                case rest =>
                  obtain ⟨hE, P, Q, rfl, rfl, hPx, hQy⟩ := hcut
                  have HE := Lib.hid (HBJ.out.trans (hE.mono hVj))
                  have p0 := hPx.cell 0
                  have x0 := hQy.cell 0
                  have p1 := hPx.cell 1
                  have x1 := hQy.cell 1
                  have p2 := hPx.cell 2
                  have x2 := hQy.cell 2
                  have p3 := hPx.cell 3
                  have x3 := hQy.cell 3
                  have p4 := hPx.cell 4
                  have x4 := hQy.cell 4
                  simp only [List.getElem?_toArray, List.getElem?_cons_succ, List.getElem?_cons_zero] at p0 p1 p2 p3 p4 x0 x1 x2 x3 x4
                  clear hE hPx hQy k2j n2j v0 v1 v2 v3 v4 v5 v6 v7 v8 u0 u1 u2 u3 u4 u5 u6 u7 u8
                  by_cases hid : x.id = y.id
                  case neg =>
                    have hid2 : (x.id == y.id) = false := by simpa using hid
                    go_wp2_with fail
                    exact ⟨⟨j + 1, hjt, by go_num, HE.out⟩, measZ hjt⟩
                  obtain ⟨he1, he2, he3⟩ := HEP.out x (by rw [HXX.out]; exact List.getElem_mem hkt) y (by rw [HYY.out]; exact List.getElem_mem hjt) hid
                  have hid2 : (x.id == y.id) = true := by simpa using hid
                  by_cases hlt2 : x.ep < y.ep
                  · clear he2 he3
                    go_wp2_with fail
                    all_goals exact ⟨⟨j + 1, hjt, by go_num, HE.out⟩, measZ hjt⟩
                  · have hEO : y.ow = x.ow := Classical.byContradiction (fun h => hlt2 (he2 h))
                    have hEF : y.fr = x.fr := Classical.byContradiction (fun h => hlt2 (he3 (.inl h)))
                    have hET : y.tt = x.tt := Classical.byContradiction (fun h => hlt2 (he3 (.inr h)))
                    rw [hEO] at x3
                    rw [hEF] at x1
                    rw [hET] at x2
                    clear he2 he3 hEO hEF hET
                    go_wp2_with fail
                    all_goals exact ⟨⟨j + 1, hjt, by go_num, HE.out⟩, measZ hjt⟩
              · obtain rfl : m3.zs.length = j := by omega
                go_wp2_with fail
                exact ⟨⟨k + 1, hkt, by go_num, HBJ.out⟩, measZ hkt⟩
          · obtain rfl : m.zs.length = k := by omega
            go_wp2_with fail
            exact ⟨⟨i + 1, m3, zv3, hlt, by go_num, HDV.out.below HBK.out, HI3.out, HN3.out, hV3, Nat.le_trans hbV HBK.out.size, HWV.out.trans (HBK.out.mono HWV.out.size)⟩, by simp [intOf]; omega⟩
    · obtain rfl : min xs.length 100 = i := by omega
      clear hBw hD hI hN
      by_cases q3 : ((min xs.length 100 : Nat) : Int) < (xs.length : Int)
      · have q4 : ¬ ((min xs.length 100 : Nat) : Int) < 100 := by omega
        go_wp2_with (first
          | (go_at_call 11; refine (drKnown _).mono ?_; rintro e w9 ⟨rfl, hb9⟩; have HB9 := Lib.hid hb9; clear hb9)
          | fail)
        go_ret
        exact ⟨rfl, HW.out.trans (HB9.out.mono HW.out.size)⟩
      · go_wp2_with (first
          | (go_at_call 11; refine (drKnown _).mono ?_; rintro e w9 ⟨rfl, hb9⟩; have HB9 := Lib.hid hb9; clear hb9)
          | fail)
        go_ret
        exact ⟨rfl, HW.out.trans (HB9.out.mono HW.out.size)⟩
end Go.Proofs.Ytbohpjinkdffhaa
