/- VaultKeeps: the walk. -/
import Derived.Test.YtdlbiobjnohfbaaLayK
import Derived.ProofKit
import Derived.Test.YtdlbiobjnohfbaaProg
import Derived.WalkKit
import Derived.WalkSpells
import Derived.WalkLawsBesides
import Derived.Deep.QuietTactic
import Derived.BigQuiet
import Derived.RegionTactic
import Derived.BigRegion
import Derived.Outline
import Derived.LoopTactic
import Derived.Lib.Hide
import Derived.Deep.RegionHeld3
import Derived.Laws.AppendOwnNone
import Derived.Deep.AppendLies
import Derived.Maps.AppendAt
import Derived.Laws.Rows
import Derived.Laws.OwnMore
import Derived.Deep.RegionLaw
import Derived.Deep.Onto
import Derived.Maps.Own
import Derived.Maps.RangeRun
import Derived.Carry
import Derived.Maps.Range
import Derived.Deep.DeepMust
import Derived.WideShapes
import Derived.Sort.KeysCollected
import Derived.StringKeys
import Derived.Shelf.SlIter.Nil
import Derived.Shelf.SlIter.Sorted
import Derived.Shelf.SortM.Plain
import Derived.Shelf.SortM.SortNone
import Derived.Deep.Cut
import Derived.StillTailTactics
import Derived.Deep.Light
import Derived.Test.YtdlbiobjnohfbaaLay
import Derived.Shelf.SlSortCmp.NoneTotal
import GoSem.Op.String
import Derived.Lib.Strings
import Derived.OpenShut
import Derived.ShutString
import Derived.Deep.SlicePairs
import Derived.Laws.IdiomArrays
import Derived.Deep.CutBlock
import Derived.Deep.DeepCutAuto
import Derived.Test.YtdlbiobjnohfbaaVk0
import Derived.Test.YtdlbiobjnohfbaaVk1
import Derived.Test.YtdlbiobjnohfbaaVk2
import Derived.Test.YtdlbiobjnohfbaaVk3
import Derived.Test.YtdlbiobjnohfbaaVk4
import Derived.Test.YtdlbiobjnohfbaaVk5
import Derived.Test.YtdlbiobjnohfbaaVk6
import Derived.Test.YtdlbiobjnohfbaaVk7
import Derived.Test.YtdlbiobjnohfbaaVk8
import Derived.Test.YtdlbiobjnohfbaaVk9
import Derived.Test.YtdlbiobjnohfbaaVk10
import Derived.Test.YtdlbiobjnohfbaaVk11
import Derived.Test.YtdlbiobjnohfbaaVk12
import Derived.Test.YtdlbiobjnohfbaaVk13
import Derived.Test.YtdlbiobjnohfbaaVk14
import Derived.Test.YtdlbiobjnohfbaaVk15
import Derived.Test.YtdlbiobjnohfbaaVk16
import Derived.Test.YtdlbiobjnohfbaaVk17
import Derived.Test.YtdlbiobjnohfbaaVk18
import Derived.Test.YtdlbiobjnohfbaaVk19
import Derived.Test.YtdlbiobjnohfbaaVk20
import Derived.Test.YtdlbiobjnohfbaaVk21
import Derived.Test.YtdlbiobjnohfbaaVk22
import Derived.Test.YtdlbiobjnohfbaaVk23
import Derived.Test.YtdlbiobjnohfbaaVk24
import Derived.Test.YtdlbiobjnohfbaaVk25
import Derived.Test.YtdlbiobjnohfbaaVk26
import Derived.Test.YtdlbiobjnohfbaaVk27
import Derived.Test.YtdlbiobjnohfbaaVk28
import Derived.Test.YtdlbiobjnohfbaaVk29
import Derived.Test.YtdlbiobjnohfbaaVk30
import Derived.Test.YtdlbiobjnohfbaaVk31
import Derived.Test.YtdlbiobjnohfbaaVk32
import Derived.Test.YtdlbiobjnohfbaaVk33
import Derived.Test.YtdlbiobjnohfbaaVk34
import Derived.Test.YtdlbiobjnohfbaaVk35
import Derived.Test.YtdlbiobjnohfbaaVk36
import Derived.Test.YtdlbiobjnohfbaaVk37
import Derived.Test.YtdlbiobjnohfbaaVk38
import Derived.Test.YtdlbiobjnohfbaaVk39
import Derived.Test.YtdlbiobjnohfbaaVk40
import Derived.Test.YtdlbiobjnohfbaaVk41
import Derived.Test.YtdlbiobjnohfbaaVk42
import Derived.Test.YtdlbiobjnohfbaaVk43
import Derived.Test.YtdlbiobjnohfbaaVk44
import Derived.Test.YtdlbiobjnohfbaaVk45
import Derived.Test.YtdlbiobjnohfbaaVk46
import Derived.Test.YtdlbiobjnohfbaaVk47
import Derived.Test.YtdlbiobjnohfbaaVk48
import Derived.Test.YtdlbiobjnohfbaaVk49
namespace Go.Proofs.Ytdlbiobjnohfbaa
open Go.RowKit Go.ChangeMaps Go.MapKept
set_option linter.unusedVariables false
set_option linter.unusedSimpArgs false
def fC (l : Pm) (L : List Od) (v : Nat → Int) (k : Nat) : Array Value := #[.int .i64 (tot 0 l L + (if 0 < k then v 0 else 0)), .int .i64 (tot 1 l L + (if 1 < k then v 1 else 0)), .int .i64 (tot 2 l L + (if 2 < k then v 2 else 0)), .int .i64 (tot 3 l L + (if 3 < k then v 3 else 0))]
theorem fC_at {l : Pm} {L : List Od} {v : Nat → Int} {k : Nat} (h : k < 4) : (fC l L v k)[k]? = some (.int .i64 (tot k l L)) := by
  rcases (show k = 0 ∨ k = 1 ∨ k = 2 ∨ k = 3 by omega) with rfl | rfl | rfl | rfl <;> simp [fC]
theorem fC_set {l : Pm} {L : List Od} {v : Nat → Int} {k : Nat} (h : k < 4) : (fC l L v k).setIfInBounds k (.int .i64 (tot k l L + v k)) = fC l L v (k + 1) := by
  rcases (show k = 0 ∨ k = 1 ∨ k = 2 ∨ k = 3 by omega) with rfl | rfl | rfl | rfl <;> simp [fC]
theorem fC_zero (l : Pm) (L : List Od) (v : Nat → Int) : fC l L v 0 = #[.int .i64 (tot 0 l L), .int .i64 (tot 1 l L), .int .i64 (tot 2 l L), .int .i64 (tot 3 l L)] := by simp [fC]
theorem fC_four (l : Pm) (L : List Od) (v : Nat → Int) : fC l L v 4 = #[.int .i64 (tot 0 l L + v 0), .int .i64 (tot 1 l L + v 1), .int .i64 (tot 2 l L + v 2), .int .i64 (tot 3 l L + v 3)] := by simp [fC]
theorem it_at (a : Va) {k : Nat} (h : k < 4) : (#[.int .i64 a.kind, .int .i64 a.n, .string a.who, .int .i64 a.i.1, .int .i64 a.i.2.1, .int .i64 a.i.2.2.1, .int .i64 a.i.2.2.2, .int .i64 a.o.id, .string a.o.who, .bool a.o.buy, .int .i64 a.o.item, .int .i64 a.o.ct, .int .i64 a.o.pr] : Array Value)[3 + k]? = some (.int .i64 (compI a.i k)) := by
  rcases (show k = 0 ∨ k = 1 ∨ k = 2 ∨ k = 3 by omega) with rfl | rfl | rfl | rfl <;> rfl
theorem sumK_pos {j : Nat} {l : Pm} (h : PmOk l) : 0 ≤ sumK j l := (h.ge j []).2
theorem tot_pos {j : Nat} {l : Pm} {L : List Od} {last : Int} (h : PmOk l) (hk : Bk L last) : 0 ≤ tot j l L := by
  have h1 := sumK_pos (j := j) h
  have h2 := sumH_ge (j := j) hk
  unfold tot; omega
set_option maxHeartbeats 10000000 in
set_option maxRecDepth 10000 in
theorem walkVaultKeeps (A : Option Addr) (c : Nat) (xs : List Va) (w : World) (hx : Cells w w.heap.size A xs.length c 13 (xs.flatMap vaV)) :
    Calls Try.prog 3 #[.slice A xs.length c] w fun e w' => e = .returned (.bool true) ∧ Below w.heap.size w w' := by
  have HX := Lib.hid hx
  clear hx
  go_enter Try.func3, Try.ntmps3
  go_wp2_with fail
  refine (vtHeavy A c xs _ HX.out).mono ?_
  rintro e w1 ⟨hv, rfl, hb1⟩
  cases hv with
  | true =>
    go_wp2_with fail
    go_ret
    exact ⟨rfl, hb1⟩
  | false =>
  go_wp2_with (first
    | (go_at_call 7; refine (stNew w _ hb1).mono ?_; rintro e w2 ⟨rfl, hst2, hb2⟩; have HST2 := Lib.hid hst2; have HB2 := Lib.hid hb2; clear hst2 hb2)
    | fail)
  obtain ⟨b, hb⟩ : ∃ b, b = w1.heap.size := ⟨_, rfl⟩
  rw [← hb] at HST2 ⊢
  obtain ⟨sb, hsb⟩ : ∃ x, x = w2.heap.size := ⟨_, rfl⟩
  have hsw2 : w.heap.size ≤ sb := by have := HST2.out.bel.size; omega
  have P3 : Whl (w2.alloc (.cells #[.int .i64 0, .int .i64 0, .int .i64 0, .int .i64 0] 27)) sb 27 #[.int .i64 0, .int .i64 0, .int .i64 0, .int .i64 0] := Whl.new hsb
  have S3 : St w (w2.alloc (.cells #[.int .i64 0, .int .i64 0, .int .i64 0, .int .i64 0] 27)) b [] [] 0 (fun q => q = sb) := HST2.out.belowD ((Below.refl _ _).alloc (Nat.le_refl _) _) (fun q hq => .inr (by rw [hq, hsb]; simp))
  have HP3 := Lib.hid P3
  have HST3 := Lib.hid S3
  rw [← hsb]
  clear hb hb1 P3 S3 hsb HST2 HB2
  go_loopw [5, 6, 7, 8, 9, 10, 11] (fun iv v6 v7 v8 v9 v10 v11 wr => ∃ (i : Nat) (l : Pm) (L : List Od) (gone : Int) (N : List By), i ≤ min xs.length 100 ∧ iv = .int .i64 i ∧ St w wr b l L gone (fun q => q = sb) ∧ Whl wr sb 27 #[.int .i64 (tot 0 l L), .int .i64 (tot 1 l L), .int .i64 (tot 2 l L), .int .i64 (tot 3 l L)] ∧ Nms N l L ∧ N.length ≤ i ∧ ∀ j, j ≤ 3 → tot j l L ≤ i * 1099511627776) (fun iv _ _ _ _ _ _ _ => min xs.length 100 - (intOf iv).toNat)
  case atStart => exact ⟨0, [], [], 0, [], Nat.zero_le _, rfl, HST3.out, HP3.out, Nms.nil, by simp, fun j _ => by show (0 : Int) + 0 ≤ _; omega⟩
  case round =>
    clear HST3 HP3
    obtain ⟨i, l, L, gone, N, hil, rfl, hst, hpw, hnm, hnl, htt⟩ := hrel
    have hg := hst.num
    have hBw := hst.bel
    have hsw := hBw.size
    have HST := Lib.hid hst
    have HPW := Lib.hid hpw
    have HNM := Lib.hid hnm
    have HTT := Lib.hid htt
    by_cases hlt : i < min xs.length 100
    · have q3 : (i : Int) < (xs.length : Int) := by omega
      have q4 : (i : Int) < 100 := by omega
      have HCAP : Hid (∀ j, j ≤ 3 → tot j l L ≤ cap60) := Lib.hid (fun j hj => by have := htt j hj; unfold cap60; omega)
      obtain ⟨qb, qo, rfl, hqb, hcell⟩ := va_cell HX.out (show i < xs.length by omega)
      have c0 := bkeep hBw (hcell 0 _ (by decide) rfl) hqb
      have c1 := bkeep hBw (hcell 1 _ (by decide) rfl) hqb
      have c2 := bkeep hBw (hcell 2 _ (by decide) rfl) hqb
      have c3 := bkeep hBw (hcell 3 _ (by decide) rfl) hqb
      have c4 := bkeep hBw (hcell 4 _ (by decide) rfl) hqb
      have c5 := bkeep hBw (hcell 5 _ (by decide) rfl) hqb
      have c6 := bkeep hBw (hcell 6 _ (by decide) rfl) hqb
      have c7 := bkeep hBw (hcell 7 _ (by decide) rfl) hqb
      have c8 := bkeep hBw (hcell 8 _ (by decide) rfl) hqb
      have c9 := bkeep hBw (hcell 9 _ (by decide) rfl) hqb
      have c10 := bkeep hBw (hcell 10 _ (by decide) rfl) hqb
      have c11 := bkeep hBw (hcell 11 _ (by decide) rfl) hqb
      have c12 := bkeep hBw (hcell 12 _ (by decide) rfl) hqb
      simp only [Nat.add_zero] at c0
      obtain ⟨a, ha⟩ : ∃ a, a = xs[i] := ⟨_, rfl⟩
      rw [← ha] at c0 c1 c2 c3 c4 c5 c6 c7 c8 c9 c10 c11 c12
      clear hst hnm hcell ha htt hpw
      obtain ⟨ab, hab⟩ : ∃ x, x = wr.heap.size := ⟨_, rfl⟩
      obtain ⟨W4, hW4⟩ : ∃ x, x = wr.alloc (.cells #[.int .i64 a.kind, .int .i64 a.n, .string a.who, .int .i64 a.i.1, .int .i64 a.i.2.1, .int .i64 a.i.2.2.1, .int .i64 a.i.2.2.2, .int .i64 a.o.id, .string a.o.who, .bool a.o.buy, .int .i64 a.o.item, .int .i64 a.o.ct, .int .i64 a.o.pr] 31) := ⟨_, rfl⟩
      have hs4 : W4.heap.size = wr.heap.size + 1 := by rw [hW4]; simp
      have hB4 : Below wr.heap.size wr W4 := by rw [hW4]; exact (Below.refl _ _).alloc (Nat.le_refl _) _
      have hA4 : Whl W4 ab 31 #[.int .i64 a.kind, .int .i64 a.n, .string a.who, .int .i64 a.i.1, .int .i64 a.i.2.1, .int .i64 a.i.2.2.1, .int .i64 a.i.2.2.2, .int .i64 a.o.id, .string a.o.who, .bool a.o.buy, .int .i64 a.o.item, .int .i64 a.o.ct, .int .i64 a.o.pr] := by rw [hW4]; exact Whl.new hab
      have HST4 : Hid (St w W4 b l L gone (fun q => q = sb ∨ q = ab)) := Lib.hid (HST.out.belowD hB4 (fun q hq => by
        rcases hq with h | h
        · exact .inl h
        · exact .inr (by omega)))
      have HP4 : Hid (Whl W4 sb 27 #[.int .i64 (tot 0 l L), .int .i64 (tot 1 l L), .int .i64 (tot 2 l L), .int .i64 (tot 3 l L)]) := Lib.hid (HPW.out.below hB4 HPW.out.low)
      have hsab : sb ≠ ab := by have := HPW.out.low; omega
      have HA4 := Lib.hid hA4
      have hwab : w.heap.size ≤ ab := by omega
      have hlow4 : w.heap.size ≤ W4.heap.size := by omega
      clear hA4 hB4 hBw
      go_wp2_with fail
      rw [← hW4, ← hab]
      clear hW4 hab HST HPW hs4 hsw
      clear c0 c1 c2 c3 c4 c5 c6 c7 c8 c9 c10 c11 c12
      go_loopw [7] (fun kv wq => ∃ k : Nat, k ≤ 4 ∧ kv = .int .i64 k ∧ W4 = wq ∧ ∀ j, j < k → compI a.i j ≤ 1099511627776) (fun kv _ => 4 - (intOf kv).toNat)
      case atStart => exact ⟨0, by omega, rfl, rfl, fun j hj => by omega⟩
      case round =>
        obtain ⟨k, hk4, rfl, hwq, hsm⟩ := hrel
        subst hwq
        by_cases hk : k < 4
        · have p1 : (k : Int) < 4 := by omega
          have hck : W4.cell? ⟨ab, 3 + k, none⟩ = some (.int .i64 (compI a.i k)) := by rw [HA4.out.cell]; exact it_at a hk
          obtain ⟨ck, hcke⟩ : ∃ x, x = compI a.i k := ⟨_, rfl⟩
          rw [← hcke] at hck
          by_cases hbig : 1099511627776 < ck
          · go_wp2_with (first
              | (go_at_call 8; refine (vtKnown _).mono ?_; rintro e w9 ⟨rfl, hb9⟩)
              | fail)
            go_ret
            exact ⟨rfl, HST4.out.bel.trans (hb9.mono hlow4)⟩
          · go_wp2_with fail
            exact ⟨⟨k + 1, by omega, by go_num, by trivial, fun j hj => by
              by_cases e : j = k
              · subst e; omega
              · exact hsm j (by omega)⟩, by simp [intOf]; omega⟩
        · obtain rfl : k = 4 := by omega
          have HSM : Hid (∀ j, j < 4 → compI a.i j ≤ 1099511627776) := Lib.hid hsm
          clear hsm
          have d0 := HA4.out.cell 0
          have d1 := HA4.out.cell 1
          have d2 := HA4.out.cell 2
          have d3 := HA4.out.cell 3
          have d4 := HA4.out.cell 4
          have d5 := HA4.out.cell 5
          have d6 := HA4.out.cell 6
          have d7 := HA4.out.cell 7
          have d8 := HA4.out.cell 8
          have d9 := HA4.out.cell 9
          have d10 := HA4.out.cell 10
          have d11 := HA4.out.cell 11
          have d12 := HA4.out.cell 12
          simp only [List.getElem?_toArray, List.getElem?_cons_succ, List.getElem?_cons_zero] at d0 d1 d2 d3 d4 d5 d6 d7 d8 d9 d10 d11 d12
          go_upto_block 4 with fail
          go_cut [42] (fun kd wq => ∃ (l5 : Pm) (L5 : List Od) (g5 : Int) (N5 : List By), St w wq b l5 L5 g5 (fun q => q = sb) ∧ Whl wq sb 27 #[.int .i64 (tot 0 l5 L5), .int .i64 (tot 1 l5 L5), .int .i64 (tot 2 l5 L5), .int .i64 (tot 3 l5 L5)] ∧ Nms N5 l5 L5 ∧ N5.length ≤ i + 1 ∧ ∀ j, j ≤ 3 → tot j l5 L5 ≤ (i + 1) * 1099511627776)
          case first =>
            by_cases k1 : a.kind = 1
            · go_wp2_with fail
              refine (stPut w b l L gone a.who a.i (fun q => q = sb ∨ q = ab) _ HST4.out).mono ?_
              rintro e w5 ⟨cc, l5, rfl, ⟨hst5, hsame⟩, hr⟩
              by_cases hcc : cc = 0
              · subst hcc
                have hrt := fun j => hr.tot L j
                have hps := fun j => hr.pos rfl j
                simp only [if_true] at hrt
                have HRT := Lib.hid hrt
                have HPS := Lib.hid hps
                have hnm5 := hr.nms HNM.out
                have HNM5 := Lib.hid hnm5
                have P5 := hsame.whl (.inl rfl) HP4.out
                have A5 := hsame.whl (.inr rfl) HA4.out
                rw [← fC_zero l L (fun k => compI a.i k)] at P5
                have HP5 := Lib.hid P5
                have HA5 := Lib.hid A5
                have HST5 := Lib.hid hst5
                have hz5 := hst5.bel.size
                have hTL := fun j => tot_pos (j := j) HST4.out.ok.1 HST4.out.ok.2.1.choose_spec
                have HTL := Lib.hid hTL
                clear hrt hps hnm5 P5 A5 hst5 hsame hr hTL d0 d1 d2 d3 d4 d5 d6 d7 d8 d9 d10 d11 d12
                go_wp2_with fail
                go_loopw [8] (fun kv wq => ∃ k : Nat, k ≤ 4 ∧ kv = .int .i64 k ∧ Touch (fun x => x = sb) w5 wq ∧ Whl wq sb 27 (fC l L (fun k => compI a.i k) k)) (fun kv _ => 4 - (intOf kv).toNat)
                case atStart => exact ⟨0, by omega, rfl, Touch.refl _ _, HP5.out⟩
                case round =>
                  obtain ⟨k, hk4, rfl, hT, hP⟩ := hrel
                  have HT := Lib.hid hT
                  have HP := Lib.hid hP
                  by_cases hk : k < 4
                  · have p1 : (k : Int) < 4 := by omega
                    have A6 := HA5.out.keepT hT (fun e => hsab e.symm)
                    have e1 := (HP.out.cell k).trans (fC_at hk)
                    have e2 := (A6.cell (3 + k)).trans (it_at a hk)
                    have hb1 := HSM.out k hk
                    have hb2 := HPS.out k
                    have hb3 := HTT.out k (by omega)
                    have hb4 := HTL.out k
                    obtain ⟨tk, htk⟩ : ∃ x, x = tot k l L := ⟨_, rfl⟩
                    obtain ⟨ck, hck⟩ : ∃ x, x = compI a.i k := ⟨_, rfl⟩
                    have hset := fC_set (l := l) (L := L) (v := (fun k => compI a.i k)) hk
                    try simp only at hset
                    rw [← htk] at e1 hb3 hset hb4
                    rw [← hck] at e2 hb1 hb2 hset
                    have hwr : IntKind.i64.wrap (tk + ck) = tk + ck := by rw [IntKind.wrap_i64]; omega
                    have hfr : ∀ o, _ := fun o => HP.out.free o
                    have HSET := Lib.hid hset
                    clear hT hP A6 hset htk hck
                    go_wp2_with fail
                    go_region
                    go_wp2_with fail
                    refine ⟨⟨k + 1, by omega, by go_num, ?_, ?_⟩, by simp [intOf]; omega⟩
                    · first | exact (HT.out.set (fun _ => rfl)).drewN _ | exact HT.out.set (fun _ => rfl) | exact (HT.out.set (fun _ => rfl)).drew'
                    · have h7 := HP.out.set k (.int .i64 (tk + ck))
                      have hs7 := HSET.out
                      skip
                      rw [hs7] at h7
                      first | exact h7.drew | exact h7
                  · obtain rfl : k = 4 := by omega
                    have h8 := HP.out
                    rw [fC_four] at h8
                    try simp only at h8
                    have h9 := HST5.out.other (HT.out.mono (fun q h => .inl h)) (fun q hq => by omega)
                    have h10 := h9.belowD (D' := fun q => q = sb) (Below.refl _ _) (fun q hq => .inl (.inl hq))
                    go_wp2_with fail
                    go_meet
                    case rel => exact ⟨l5, L, gone, _, h10, by rw [HRT.out 0, HRT.out 1, HRT.out 2, HRT.out 3]; exact h8, HNM5.out, by rw [List.length_cons]; omega, fun j hj => by rw [HRT.out j]; have := HTT.out j hj; have := HSM.out j (by omega); have := HPS.out j; omega⟩

              · have hrt : ∀ j, j ≤ 3 → tot j l5 L = tot j l L := fun j _ => by rw [hr.tot L j, if_neg hcc]; omega
                have hnm5 := hr.nms HNM.out
                go_wp2_with fail
                go_meet
                case rel => exact ⟨l5, L, gone, _, hst5.belowD (D' := fun q => q = sb) (Below.refl _ _) (fun q hq => .inl (.inl hq)), by rw [hrt 0 (by omega), hrt 1 (by omega), hrt 2 (by omega), hrt 3 (by omega)]; exact hsame.whl (.inl rfl) HP4.out, hnm5, by first | (rw [List.length_cons]; omega) | omega, fun j hj => by rw [hrt j hj]; have := HTT.out j hj; omega⟩
            · by_cases k2 : a.kind = 2
              · go_wp2_with fail
                refine (stTake w b l L gone a.who a.i (fun q => q = sb ∨ q = ab) _ HST4.out).mono ?_
                rintro e w5 ⟨cc, l5, rfl, ⟨hst5, hsame⟩, hr⟩
                by_cases hcc : cc = 0
                · subst hcc
                  have hrt := fun j => hr.tot L j
                  have hps := fun j => hr.pos rfl j
                  simp only [if_true] at hrt
                  have HRT := Lib.hid hrt
                  have HPS := Lib.hid hps
                  have hnm5 := hr.nms HNM.out
                  have HNM5 := Lib.hid hnm5
                  have P5 := hsame.whl (.inl rfl) HP4.out
                  have A5 := hsame.whl (.inr rfl) HA4.out
                  rw [← fC_zero l L (fun k => - compI a.i k)] at P5
                  have HP5 := Lib.hid P5
                  have HA5 := Lib.hid A5
                  have HST5 := Lib.hid hst5
                  have hz5 := hst5.bel.size
                  have hTL := fun j => tot_pos (j := j) HST4.out.ok.1 HST4.out.ok.2.1.choose_spec
                  have HTL := Lib.hid hTL
                  clear hrt hps hnm5 P5 A5 hst5 hsame hr hTL d0 d1 d2 d3 d4 d5 d6 d7 d8 d9 d10 d11 d12
                  go_wp2_with fail
                  go_loopw [9] (fun kv wq => ∃ k : Nat, k ≤ 4 ∧ kv = .int .i64 k ∧ Touch (fun x => x = sb) w5 wq ∧ Whl wq sb 27 (fC l L (fun k => - compI a.i k) k)) (fun kv _ => 4 - (intOf kv).toNat)
                  case atStart => exact ⟨0, by omega, rfl, Touch.refl _ _, HP5.out⟩
                  case round =>
                    obtain ⟨k, hk4, rfl, hT, hP⟩ := hrel
                    have HT := Lib.hid hT
                    have HP := Lib.hid hP
                    by_cases hk : k < 4
                    · have p1 : (k : Int) < 4 := by omega
                      have A6 := HA5.out.keepT hT (fun e => hsab e.symm)
                      have e1 := (HP.out.cell k).trans (fC_at hk)
                      have e2 := (A6.cell (3 + k)).trans (it_at a hk)
                      have hb1 := HSM.out k hk
                      have hb2 := HPS.out k
                      have hb3 := HTT.out k (by omega)
                      have hb4 := HTL.out k
                      obtain ⟨tk, htk⟩ : ∃ x, x = tot k l L := ⟨_, rfl⟩
                      obtain ⟨ck, hck⟩ : ∃ x, x = compI a.i k := ⟨_, rfl⟩
                      have hset := fC_set (l := l) (L := L) (v := (fun k => - compI a.i k)) hk
                      try simp only at hset
                      rw [← htk] at e1 hb3 hset hb4
                      rw [← hck] at e2 hb1 hb2 hset
                      have hwr : IntKind.i64.wrap (tk - ck) = tk - ck := by rw [IntKind.wrap_i64]; omega
                      have hfr : ∀ o, _ := fun o => HP.out.free o
                      have HSET := Lib.hid hset
                      clear hT hP A6 hset htk hck
                      go_wp2_with fail
                      go_region
                      go_wp2_with fail
                      refine ⟨⟨k + 1, by omega, by go_num, ?_, ?_⟩, by simp [intOf]; omega⟩
                      · first | exact (HT.out.set (fun _ => rfl)).drewN _ | exact HT.out.set (fun _ => rfl) | exact (HT.out.set (fun _ => rfl)).drew'
                      · have h7 := HP.out.set k (.int .i64 (tk - ck))
                        have hs7 := HSET.out
                        rw [show tk + - ck = tk - ck by omega] at hs7
                        rw [hs7] at h7
                        first | exact h7.drew | exact h7
                    · obtain rfl : k = 4 := by omega
                      have h8 := HP.out
                      rw [fC_four] at h8
                      try simp only at h8
                      have h9 := HST5.out.other (HT.out.mono (fun q h => .inl h)) (fun q hq => by omega)
                      have h10 := h9.belowD (D' := fun q => q = sb) (Below.refl _ _) (fun q hq => .inl (.inl hq))
                      go_wp2_with fail
                      go_meet
                      case rel => exact ⟨l5, L, gone, _, h10, by rw [HRT.out 0, HRT.out 1, HRT.out 2, HRT.out 3]; exact h8, HNM5.out, by rw [List.length_cons]; omega, fun j hj => by rw [HRT.out j]; have := HTT.out j hj; have := HSM.out j (by omega); have := HPS.out j; omega⟩

                · have hrt : ∀ j, j ≤ 3 → tot j l5 L = tot j l L := fun j _ => by rw [hr.tot L j, if_neg hcc]; omega
                  have hnm5 := hr.nms HNM.out
                  go_wp2_with fail
                  go_meet
                  case rel => exact ⟨l5, L, gone, _, hst5.belowD (D' := fun q => q = sb) (Below.refl _ _) (fun q hq => .inl (.inl hq)), by rw [hrt 0 (by omega), hrt 1 (by omega), hrt 2 (by omega), hrt 3 (by omega)]; exact hsame.whl (.inl rfl) HP4.out, hnm5, by first | (rw [List.length_cons]; omega) | omega, fun j hj => by rw [hrt j hj]; have := HTT.out j hj; omega⟩
              · by_cases k3 : a.kind = 3
                · go_wp2_with fail
                  refine (stOrder w b l L gone a.o (fun q => q = sb ∨ q = ab) _ HST4.out).mono ?_
                  rintro e w5 ⟨nn, cc, l5, L5, g5, rfl, ⟨hst5, hsame⟩, hr⟩
                  have hrt : ∀ j, j ≤ 3 → tot j l5 L5 = tot j l L := fun j hj => by obtain ⟨last, hk⟩ := HST4.out.ok.2.1; exact hr.tot HST4.out.ok.1 hk HCAP.out hj
                  have hnm5 := hr.nms HNM.out
                  clear hr
                  go_wp2_with fail
                  go_meet
                  case rel => exact ⟨l5, L5, g5, _, hst5.belowD (D' := fun q => q = sb) (Below.refl _ _) (fun q hq => .inl (.inl hq)), by rw [hrt 0 (by omega), hrt 1 (by omega), hrt 2 (by omega), hrt 3 (by omega)]; exact hsame.whl (.inl rfl) HP4.out, hnm5, by first | (rw [List.length_cons]; omega) | omega, fun j hj => by rw [hrt j hj]; have := HTT.out j hj; omega⟩
                · by_cases k4 : a.kind = 4
                  · go_wp2_with fail
                    refine (stCancel w b l L gone a.who a.n (fun q => q = sb ∨ q = ab) _ HST4.out).mono ?_
                    rintro e w5 ⟨cc, l5, L5, rfl, ⟨hst5, hsame⟩, hr⟩
                    have hrt : ∀ j, j ≤ 3 → tot j l5 L5 = tot j l L := fun j hj => by obtain ⟨last, hk⟩ := HST4.out.ok.2.1; exact hr.tot HST4.out.ok.1 hk HCAP.out hj
                    have hnm5 := hr.nms HNM.out
                    clear hr
                    go_wp2_with fail
                    go_meet
                    case rel => exact ⟨l5, L5, gone, _, hst5.belowD (D' := fun q => q = sb) (Below.refl _ _) (fun q hq => .inl (.inl hq)), by rw [hrt 0 (by omega), hrt 1 (by omega), hrt 2 (by omega), hrt 3 (by omega)]; exact hsame.whl (.inl rfl) HP4.out, hnm5, by first | (rw [List.length_cons]; omega) | omega, fun j hj => by rw [hrt j hj]; have := HTT.out j hj; omega⟩
                  · go_wp2_with fail
                    go_meet
                    case rel => exact ⟨l, L, gone, N, HST4.out.belowD (D' := fun q => q = sb) (Below.refl _ _) (fun q hq => .inl (.inl hq)), HP4.out, HNM.out, by omega, fun j hj => by have := HTT.out j hj; omega⟩

          case rest =>
            obtain ⟨l5, L5, g5, N5, hst5, hpw5, hnm5, hnl5, htt5⟩ := hcut
            have HNM5 := Lib.hid hnm5
            have HST5 := Lib.hid hst5
            have HPW5 := Lib.hid hpw5
            have HTT5 := Lib.hid htt5
            clear hnm5 hst5 hpw5 htt5 HNM HST4 HP4 HA4 HTT HSM HCAP d0 d1 d2 d3 d4 d5 d6 d7 d8 d9 d10 d11 d12
            go_wp2_with (first
              | (go_at_call 13; go_loud (refine (stTotal w b l5 L5 g5 (fun q => q = sb) _ HST5.out (by have := HNM5.out.len HST5.out.ok.1.1; omega) (fun j hj => by have := HTT5.out j hj; unfold cap60; omega)).mono ?_; rintro e w6 ⟨rfl, hb6⟩; have P6 := HPW5.out.below hb6 HPW5.out.low; have HST6 := Lib.hid (HST5.out.below hb6); have HPW6 := Lib.hid P6; have x0 := P6.cell 0; have x1 := P6.cell 1; have x2 := P6.cell 2; have x3 := P6.cell 3; simp only [List.getElem?_toArray, List.getElem?_cons_succ, List.getElem?_cons_zero] at x0 x1 x2 x3; have hsb6 := P6.low; clear P6 hb6))
              | fail)
            refine ⟨⟨i + 1, l5, L5, g5, N5, by omega, by go_num, ?_, ?_, HNM5.out, hnl5, fun j hj => by have := HTT5.out j hj; push_cast; omega⟩, by simp [intOf]; omega⟩
            · exact HST6.out.below ((Below.refl _ _).alloc (Nat.le_refl _) _)
            · exact HPW6.out.alloc _

    · obtain rfl : min xs.length 100 = i := by omega
      by_cases q3 : ((min xs.length 100 : Nat) : Int) < (xs.length : Int)
      · have q4 : ¬ ((min xs.length 100 : Nat) : Int) < 100 := by omega
        go_wp2_with (first
          | (go_at_call 8; refine (vtKnown _).mono ?_; rintro e w9 ⟨rfl, hb9⟩)
          | fail)
        go_ret
        exact ⟨rfl, HST.out.bel.trans (hb9.mono hsw)⟩
      · go_wp2_with (first
          | (go_at_call 8; refine (vtKnown _).mono ?_; rintro e w9 ⟨rfl, hb9⟩)
          | fail)
        go_ret
        exact ⟨rfl, HST.out.bel.trans (hb9.mono hsw)⟩
end Go.Proofs.Ytdlbiobjnohfbaa
