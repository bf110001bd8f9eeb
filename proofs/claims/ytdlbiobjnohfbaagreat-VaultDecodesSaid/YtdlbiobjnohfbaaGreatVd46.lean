/- vault: the code's Decode. -/
import Derived.Test.YtdlbiobjnohfbaaGreatVd45
namespace Go.Proofs.YtdlbiobjnohfbaaGreat
open Go.RowKit Go.ChangeMaps Go.MapKept
set_option linter.unusedVariables false
set_option linter.unusedSimpArgs false
/-- do bytes stand for a vault? -/
def vOk (xs : List Nat) : Prop := allOf (nx (vO xs).2).2 = true ∧ OfK (vO xs).1 ∧ lastOf (vO xs).1 < vN xs ∧ vN xs ≤ 1099511627777
theorem VtH.nilS {w : World} {b : Nat} {p : Value} {S : Nat → List Od} {l : Pm} {last gone : Int} (h : VtH w b p (fun _ => .slice none 0 0) S l last gone) : VtH w b p (fun _ => .slice none 0 0) (fun _ => []) l last gone :=
  ⟨⟨h.bk.whl, fun i hi => World.ownsRow_nil _ _ _ _, h.bk.far, h.bk.apart⟩, h.pu, h.ok, h.ne, h.apart⟩
theorem vO_ne {xs : List Nat} (h : (vO xs).2 ≠ none) : (vR xs).2 ≠ none := by
  intro e
  apply h
  unfold vO
  rw [e]
  exact congrArg Prod.snd (oS_none _)
set_option maxHeartbeats 8000000 in
set_option maxRecDepth 10000 in
theorem vtDecode (A : Option Addr) (c : Nat) (xs : List Nat) (w : World) (hx : Cells w w.heap.size A xs.length c 1 (flatU xs)) (h256 : ∀ x ∈ xs, x < 256) (hn : xs.length ≤ 100000) :
    Calls Tryz.prog 10 #[.slice A xs.length c] w fun e w' => Below w.heap.size w w' ∧ ((vOk xs ∧ ∃ (b : Nat) (p : Value) (v : Nat → Value), e = .returned (.tuple #[.pointer (some ⟨b, 0, none⟩), .int .i64 0]) ∧ VtAt w' b p v (vR xs).1 (vO xs).1 (lastOf (vO xs).1) (vN xs - 1) ∧ ∀ k, Fv b p v k → w.heap.size ≤ k) ∨ (¬ vOk xs ∧ e = .returned (.tuple #[.pointer none, .int .i64 3]))) := by
  have HX := Lib.hid hx
  have H256 := Lib.hid h256
  clear hx h256
  go_enter Tryz.func10, Tryz.ntmps10
  go_wp2_with fail
  refine (newVault _).mono ?_
  rintro e w1 ⟨rfl, hv1, hb1⟩
  have hs1 := hb1.size
  have HV1 := Lib.hid hv1
  have hlow1 : w.heap.size < w1.heap.size := by
    obtain ⟨S, h1, _⟩ := hv1
    exact h1.lows _ (.inl (.inl rfl))
  have HB1 := Lib.hid hb1
  have HX1 := Lib.hid (cells_mono (cells_keep HX.out hb1 (Nat.le_refl _)) hs1)
  clear hv1 hb1
  go_wp2_with fail
  refine (octNew A c xs w1 hn H256.out HX1.out).mono ?_
  rintro e w2 ⟨rb, rfl, hrb, hrs2, hb2⟩
  have hv2 : RV w w2 w.heap.size rb (.map none) [] (some xs) := by
    obtain ⟨S, h1, _⟩ := HV1.out
    exact ⟨(h1.below hb2).nilS, hrs2, by omega, fun k hk => (by cases hk), Nat.le_refl _, HB1.out.trans (hb2.mono hs1)⟩
  have HV2 := Lib.hid hv2
  obtain ⟨vb, hvb⟩ : ∃ z, z = w.heap.size := ⟨_, rfl⟩
  rw [← hvb] at HV2 ⊢
  have hvw : w.heap.size ≤ vb := by omega
  clear hv2 hrs2 hb2 HV1 HB1 HX1 HX hvb hlow1
  go_wp2_with fail
  refine (vtTakePurses w vb rb _ (some xs) _ HV2.out).mono ?_
  rintro e w3 ⟨rfl, p3, l3, hv3, hl3⟩
  have HV3 : Hid (RV w w3 vb rb p3 l3 (vR xs).2) := Lib.hid hv3
  have HL3 : Hid ((vR xs).2 ≠ none → l3 = (vR xs).1) := Lib.hid hl3
  clear hv3 hl3 HV2
  go_wp2_with fail
  refine (vtTakeOrders w vb rb p3 l3 (vR xs).2 _ HV3.out).mono ?_
  rintro e w4 ⟨last, rfl, h4⟩
  rcases h4 with ⟨hno, hv4⟩ | ⟨hne, hof, hlast, S, v, hvt, hrel, hbk, hrs, hfv, hbel⟩
  · have hnot : ¬ vOk xs := fun hk => hno ⟨fun e => (by
      have h1 := hk.1
      have e2 : (vO xs).2 = none := e
      rw [e2] at h1; cases h1), hk.2.1⟩
    have HNOT := Lib.hid hnot
    have HV4 := Lib.hid hv4
    clear hno hv4 hnot HV3 HL3
    go_wp2_with fail
    refine (octNxT rb none _ HV4.out.rs).mono ?_
    rintro e w5 ⟨rfl, hrs5, ht5⟩
    have HV5 : Hid (RV w w5 vb rb p3 l3 none) := Lib.hid (HV4.out.read ht5 hrs5)
    clear hrs5 ht5 HV4
    go_wp2_with fail
    refine (octAll rb none _ HV5.out.rs).mono ?_
    rintro e w6 ⟨rfl, rfl⟩
    simp only [allOf]
    go_wp2_with fail
    refine bodyPost_ret (v := .tuple #[.pointer none, .int .i64 3]) (by simp [results, Tryz.results10, go_sem]) rfl ⟨HV5.out.bel, .inr ⟨HNOT.out, rfl⟩⟩
  · have hne : (vO xs).2 ≠ none := hne
    have hof : OfK (vO xs).1 := hof
    have hlast : last = lastOf (vO xs).1 := hlast
    have hrel : RelS S (vO xs).1 := hrel
    have hbk : Bk (vO xs).1 last := hbk
    have hrs : RS w4 rb (vO xs).2 := hrs
    have hl := HL3.out (vO_ne hne)
    have HRS := Lib.hid hrs
    have HVT := Lib.hid hvt
    have HREL := Lib.hid hrel
    have HBK := Lib.hid hbk
    have HFV := Lib.hid hfv
    have HBEL := Lib.hid hbel
    have HOF := Lib.hid hof
    have HLA := Lib.hid hlast
    have HL := Lib.hid hl
    have hl0 := hbk.zero
    have ht0 := hbk.top
    clear hrs hvt hrel hbk hfv hbel hof hlast hne hl HL3 HV3
    go_wp2_with fail
    refine (octNxT rb (vO xs).2 _ HRS.out).mono ?_
    rintro e w5 ⟨rfl, hrs5, ht5⟩
    have hvt5 := HVT.out.keep ht5.touch (fun k hk e => (HFV.out k hk).1 e)
    have hb5 : Below w.heap.size w w5 := HBEL.out.trans (ht5.touch.below HBEL.out.size (fun k hk => by have e2 : k = rb := hk; omega))
    have hN : ((nx (vO xs).2).1 : Int) = vN xs := rfl
    obtain ⟨N, hN2⟩ : ∃ N, N = vN xs := ⟨_, rfl⟩
    have hN0 : 0 ≤ N := by rw [hN2]; unfold vN; omega
    have hN1 : N ≤ 4611686018427387904 := by rw [hN2]; unfold vN; have := nx_le (vO xs).2; omega
    rw [hN, ← hN2]
    have HVT5 := Lib.hid hvt5
    have HB5 := Lib.hid hb5
    have HRS5 := Lib.hid hrs5
    have HN := Lib.hid hN2
    clear hrs5 hvt5 ht5 hb5 HVT HRS HBEL hN hN2
    go_wp2_with fail
    refine (octAll rb _ _ HRS5.out).mono ?_
    rintro e w6 ⟨rfl, rfl⟩
    by_cases hok : allOf (nx (vO xs).2).2 = true ∧ last < N ∧ N ≤ 1099511627777
    · obtain ⟨ha, hb, hc⟩ := hok
      have hvok : vOk xs := ⟨ha, HOF.out, by rw [← HLA.out, ← HN.out]; exact hb, by rw [← HN.out]; exact hc⟩
      have HVOK := Lib.hid hvok
      rw [ha]
      have q1 : ¬ N ≤ last := by omega
      have q2 : ¬ 1099511627777 < N := by omega
      have g10 := HVT5.out.cellG
      have fr10 := HVT5.out.bk.whl.free 10
      have hw1 : IntKind.i64.wrap (N - 1) = N - 1 := by rw [IntKind.wrap_i64]; omega
      clear ha hvok
      go_wp2_with fail
      have hz := HVT5.out.num (N - 1)
      refine bodyPost_ret (v := .tuple #[.pointer (some ⟨vb, 0, none⟩), .int .i64 0]) (by simp [results, Tryz.results10, go_sem]) rfl ⟨HB5.out.trans ⟨rfl, rfl, rfl, by simp [World.setCell], fun k hk => Below.heap_setCell _ _ _ _ (by simp; omega)⟩, .inl ⟨HVOK.out, vb, p3, v, rfl, ⟨S, by rw [← HL.out, ← HN.out, ← HLA.out]; exact hz, HREL.out, by rw [← HLA.out]; exact HBK.out, HOF.out.1, by rw [← HLA.out, ← HN.out]; omega, by rw [← HN.out]; omega⟩, fun k hk => (HFV.out k hk).2⟩⟩
    · have hnot : ¬ vOk xs := fun hk => hok ⟨hk.1, by rw [HLA.out, HN.out]; exact hk.2.2.1, by rw [HN.out]; exact hk.2.2.2⟩
      have HNOT := Lib.hid hnot
      clear hnot
      cases ha : allOf (nx (vO xs).2).2 with
      | false =>
        clear hok ha
        go_wp2_with fail
        refine bodyPost_ret (v := .tuple #[.pointer none, .int .i64 3]) (by simp [results, Tryz.results10, go_sem]) rfl ⟨HB5.out, .inr ⟨HNOT.out, rfl⟩⟩
      | true =>
        rw [ha] at hok
        by_cases q1 : N ≤ last
        · clear hok ha
          go_wp2_with fail
          refine bodyPost_ret (v := .tuple #[.pointer none, .int .i64 3]) (by simp [results, Tryz.results10, go_sem]) rfl ⟨HB5.out, .inr ⟨HNOT.out, rfl⟩⟩
        · have q2 : 1099511627777 < N := by
            by_cases q : 1099511627777 < N
            · exact q
            · exact absurd ⟨rfl, by omega, by omega⟩ hok
          clear hok ha
          go_wp2_with fail
          refine bodyPost_ret (v := .tuple #[.pointer none, .int .i64 3]) (by simp [results, Tryz.results10, go_sem]) rfl ⟨HB5.out, .inr ⟨HNOT.out, rfl⟩⟩
end Go.Proofs.YtdlbiobjnohfbaaGreat
