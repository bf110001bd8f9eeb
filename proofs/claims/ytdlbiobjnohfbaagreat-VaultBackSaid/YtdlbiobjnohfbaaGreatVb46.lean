/- vault: the code's Decode. vault: the code's and the document's, side by side. -/
import Derived.Test.YtdlbiobjnohfbaaGreatVb42
import Derived.Test.YtdlbiobjnohfbaaGreatVb45
namespace Go.Proofs.YtdlbiobjnohfbaaGreat
open Go.RowKit Go.ChangeMaps Go.MapKept
set_option linter.unusedVariables false
set_option linter.unusedSimpArgs false
def vOk (xs : List Nat) : Prop := allOf (nx (vO xs).2).2 = true ∧ OfK (vO xs).1 ∧ lastOf (vO xs).1 < vN xs ∧ vN xs ≤ 1099511627777
theorem VtH.nilS {w : World} {b : Nat} {p : Value} {S : Nat → List Od} {l : Pm} {last gone : Int} (h : VtH w b p (fun _ => .slice none 0 0) S l last gone) : VtH w b p (fun _ => .slice none 0 0) (fun _ => []) l last gone :=
 ⟨⟨h.bk.whl, fun i hi => World.ownsRow_nil _ _ _ _, h.bk.far, h.bk.apart⟩, h.pu, h.ok, h.ne, h.apart⟩
theorem vO_ne {xs : List Nat} (h : (vO xs).2 ≠ none) : (vR xs).2 ≠ none := by
 intro e
 apply h
 unfold vO
 rw [e]
 exact congrArg Prod.snd (oS_none _)
set_option maxHeartbeats 8000000 in
set_option maxRecDepth 10000 in
theorem vtDecode (A : Option Addr) (c : Nat) (xs : List Nat) (w : World) (hx : Cells w w.heap.size A xs.length c 1 (flatU xs)) (h256 : ∀ x ∈ xs, x < 256) (hn : xs.length ≤ 100000) :
  Calls Tryz.prog 10 #[.slice A xs.length c] w fun e w' => Below w.heap.size w w' ∧ ((vOk xs ∧ ∃ (b : Nat) (p : Value) (v : Nat → Value), e = .returned (.tuple #[.pointer (some ⟨b, 0, none⟩), .int .i64 0]) ∧ VtAt w' b p v (vR xs).1 (vO xs).1 (lastOf (vO xs).1) (vN xs - 1) ∧ ∀ k, Fv b p v k → w.heap.size ≤ k) ∨ (¬ vOk xs ∧ e = .returned (.tuple #[.pointer none, .int .i64 3]))) := by
 have HX := Lib.hid hx
 have H256 := Lib.hid h256
 clear hx h256
 go_enter Tryz.func10, Tryz.ntmps10
 go_wp2_with fail
 refine (newVault _).mono ?_
 rintro e w1 ⟨rfl, hv1, hb1⟩
 have hs1 := hb1.size
 have HV1 := Lib.hid hv1
 have hlow1 : w.heap.size < w1.heap.size := by
  obtain ⟨S, h1, _⟩ := hv1
  exact h1.lows _ (.inl (.inl rfl))
 have HB1 := Lib.hid hb1
 have HX1 := Lib.hid (cells_mono (cells_keep HX.out hb1 (Nat.le_refl _)) hs1)
 clear hv1 hb1
 go_wp2_with fail
 refine (octNew A c xs w1 hn H256.out HX1.out).mono ?_
 rintro e w2 ⟨rb, rfl, hrb, hrs2, hb2⟩
 have hv2 : RV w w2 w.heap.size rb (.map none) [] (some xs) := by
  obtain ⟨S, h1, _⟩ := HV1.out
  exact ⟨(h1.below hb2).nilS, hrs2, by omega, fun k hk => (by cases hk), Nat.le_refl _, HB1.out.trans (hb2.mono hs1)⟩
 have HV2 := Lib.hid hv2
 obtain ⟨vb, hvb⟩ : ∃ z, z = w.heap.size := ⟨_, rfl⟩
 rw [← hvb] at HV2 ⊢
 have hvw : w.heap.size ≤ vb := by omega
 clear hv2 hrs2 hb2 HV1 HB1 HX1 HX hvb hlow1
 go_wp2_with fail
 refine (vtTakePurses w vb rb _ (some xs) _ HV2.out).mono ?_
 rintro e w3 ⟨rfl, p3, l3, hv3, hl3⟩
 have HV3 : Hid (RV w w3 vb rb p3 l3 (vR xs).2) := Lib.hid hv3
 have HL3 : Hid ((vR xs).2 ≠ none → l3 = (vR xs).1) := Lib.hid hl3
 clear hv3 hl3 HV2
 go_wp2_with fail
 refine (vtTakeOrders w vb rb p3 l3 (vR xs).2 _ HV3.out).mono ?_
 rintro e w4 ⟨last, rfl, h4⟩
 rcases h4 with ⟨hno, hv4⟩ | ⟨hne, hof, hlast, S, v, hvt, hrel, hbk, hrs, hfv, hbel⟩
 ·
  have hnot : ¬ vOk xs := fun hk => hno ⟨fun e => (by
   have h1 := hk.1
   have e2 : (vO xs).2 = none := e
   rw [e2] at h1; cases h1), hk.2.1⟩
  have HNOT := Lib.hid hnot
  have HV4 := Lib.hid hv4
  clear hno hv4 hnot HV3 HL3
  go_wp2_with fail
  refine (octNxT rb none _ HV4.out.rs).mono ?_
  rintro e w5 ⟨rfl, hrs5, ht5⟩
  have HV5 : Hid (RV w w5 vb rb p3 l3 none) := Lib.hid (HV4.out.read ht5 hrs5)
  clear hrs5 ht5 HV4
  go_wp2_with fail
  refine (octAll rb none _ HV5.out.rs).mono ?_
  rintro e w6 ⟨rfl, rfl⟩
  simp only [allOf]
  go_wp2_with fail
  refine bodyPost_ret (v := .tuple #[.pointer none, .int .i64 3]) (by simp [results, Tryz.results10, go_sem]) rfl ⟨HV5.out.bel, .inr ⟨HNOT.out, rfl⟩⟩
 ·
  have hne : (vO xs).2 ≠ none := hne
  have hof : OfK (vO xs).1 := hof
  have hlast : last = lastOf (vO xs).1 := hlast
  have hrel : RelS S (vO xs).1 := hrel
  have hbk : Bk (vO xs).1 last := hbk
  have hrs : RS w4 rb (vO xs).2 := hrs
  have hl := HL3.out (vO_ne hne)
  have HRS := Lib.hid hrs
  have HVT := Lib.hid hvt
  have HREL := Lib.hid hrel
  have HBK := Lib.hid hbk
  have HFV := Lib.hid hfv
  have HBEL := Lib.hid hbel
  have HOF := Lib.hid hof
  have HLA := Lib.hid hlast
  have HL := Lib.hid hl
  have hl0 := hbk.zero
  have ht0 := hbk.top
  clear hrs hvt hrel hbk hfv hbel hof hlast hne hl HL3 HV3
  go_wp2_with fail
  refine (octNxT rb (vO xs).2 _ HRS.out).mono ?_
  rintro e w5 ⟨rfl, hrs5, ht5⟩
  have hvt5 := HVT.out.keep ht5.touch (fun k hk e => (HFV.out k hk).1 e)
  have hb5 : Below w.heap.size w w5 := HBEL.out.trans (ht5.touch.below HBEL.out.size (fun k hk => by have e2 : k = rb := hk; omega))
  have hN : ((nx (vO xs).2).1 : Int) = vN xs := rfl
  obtain ⟨N, hN2⟩ : ∃ N, N = vN xs := ⟨_, rfl⟩
  have hN0 : 0 ≤ N := by rw [hN2]; unfold vN; omega
  have hN1 : N ≤ 4611686018427387904 := by rw [hN2]; unfold vN; have := nx_le (vO xs).2; omega
  rw [hN, ← hN2]
  have HVT5 := Lib.hid hvt5
  have HB5 := Lib.hid hb5
  have HRS5 := Lib.hid hrs5
  have HN := Lib.hid hN2
  clear hrs5 hvt5 ht5 hb5 HVT HRS HBEL hN hN2
  go_wp2_with fail
  refine (octAll rb _ _ HRS5.out).mono ?_
  rintro e w6 ⟨rfl, rfl⟩
  by_cases hok : allOf (nx (vO xs).2).2 = true ∧ last < N ∧ N ≤ 1099511627777
  ·
   obtain ⟨ha, hb, hc⟩ := hok
   have hvok : vOk xs := ⟨ha, HOF.out, by rw [← HLA.out, ← HN.out]; exact hb, by rw [← HN.out]; exact hc⟩
   have HVOK := Lib.hid hvok
   rw [ha]
   have q1 : ¬ N ≤ last := by omega
   have q2 : ¬ 1099511627777 < N := by omega
   have g10 := HVT5.out.cellG
   have fr10 := HVT5.out.bk.whl.free 10
   have hw1 : IntKind.i64.wrap (N - 1) = N - 1 := by rw [IntKind.wrap_i64]; omega
   clear ha hvok
   go_wp2_with fail
   have hz := HVT5.out.num (N - 1)
   refine bodyPost_ret (v := .tuple #[.pointer (some ⟨vb, 0, none⟩), .int .i64 0]) (by simp [results, Tryz.results10, go_sem]) rfl ⟨HB5.out.trans ⟨rfl, rfl, rfl, by simp [World.setCell], fun k hk => Below.heap_setCell _ _ _ _ (by simp; omega)⟩, .inl ⟨HVOK.out, vb, p3, v, rfl, ⟨S, by rw [← HL.out, ← HN.out, ← HLA.out]; exact hz, HREL.out, by rw [← HLA.out]; exact HBK.out, HOF.out.1, by rw [← HLA.out, ← HN.out]; omega, by rw [← HN.out]; omega⟩, fun k hk => (HFV.out k hk).2⟩⟩
  ·
   have hnot : ¬ vOk xs := fun hk => hok ⟨hk.1, by rw [HLA.out, HN.out]; exact hk.2.2.1, by rw [HN.out]; exact hk.2.2.2⟩
   have HNOT := Lib.hid hnot
   clear hnot
   cases ha : allOf (nx (vO xs).2).2 with
   | false =>
    clear hok ha
    go_wp2_with fail
    refine bodyPost_ret (v := .tuple #[.pointer none, .int .i64 3]) (by simp [results, Tryz.results10, go_sem]) rfl ⟨HB5.out, .inr ⟨HNOT.out, rfl⟩⟩
   | true =>
    rw [ha] at hok
    by_cases q1 : N ≤ last
    ·
     clear hok ha
     go_wp2_with fail
     refine bodyPost_ret (v := .tuple #[.pointer none, .int .i64 3]) (by simp [results, Tryz.results10, go_sem]) rfl ⟨HB5.out, .inr ⟨HNOT.out, rfl⟩⟩
    ·
     have q2 : 1099511627777 < N := by
      by_cases q : 1099511627777 < N
      · exact q
      · exact absurd ⟨rfl, by omega, by omega⟩ hok
     clear hok ha
     go_wp2_with fail
     refine bodyPost_ret (v := .tuple #[.pointer none, .int .i64 3]) (by simp [results, Tryz.results10, go_sem]) rfl ⟨HB5.out, .inr ⟨HNOT.out, rfl⟩⟩
theorem RvH.same {w w' : World} {B d x : Nat} {u u2 : Value} {r : Pm} {L : List Od} {last nx : Int} (h : RvH w B d x u u2 r L last nx) (hs : Same (Fr d x u u2) w w') (hz : w.heap.size ≤ w'.heap.size) (ho : w'.os = w.os) (ht : w'.tape = w.tape) (hp : w'.output = w.output) : RvH w' B d x u u2 r L last nx :=
 h.keep (D := fun k => ¬ Fr d x u u2 k) ⟨ho, ht, hp, hz, fun k _ hn => hs k (Classical.byContradiction hn)⟩ (fun k hk hn => hn hk)
def putC (l : Pm) (s : ByteArray) (i : It4) : Int := if mayB s i then (if isI (addI (hasP l s.data.toList) i) then 0 else 6) else 1
def putL (l : Pm) (s : ByteArray) (i : It4) : Pm := if putC l s i = 0 then setP l s.data.toList (addI (hasP l s.data.toList) i) else l
def takeC (l : Pm) (s : ByteArray) (i : It4) : Int := if mayB s i then (if lessI (hasP l s.data.toList) i then 14 else 0) else 1
def takeL (l : Pm) (s : ByteArray) (i : It4) : Pm := if takeC l s i = 0 then setP l s.data.toList (subI (hasP l s.data.toList) i) else l
structure JS (w0 w : World) (b d x : Nat) (lc : Pm) (Lc : List Od) (gc : Int) (ld : Pm) (Ld : List Od) (nd : Int) (B : Nat) (u u2 : Value) (last : Int) (p : Value) (v : Nat → Value) (lastc : Int) : Prop where
 vt : VtAt w b p v lc Lc lastc gc
 up : Up w0 w b p v
 rv : RvH w B d x u u2 (rowsP ld) Ld last nd
 low : w0.heap.size ≤ B
 apart : ∀ k, Fr d x u u2 k → ¬ Fv b p v k
 bk : Bk Ld last
 num : last < nd ∧ nd ≤ 1099511627777
 ok : PmOk ld
 len : Ld.length ≤ 32
def JE (w0 w : World) (b d x : Nat) (lc : Pm) (Lc : List Od) (gc : Int) (ld : Pm) (Ld : List Od) (nd : Int) (D : Nat → Prop) : Prop := ∃ B u u2 last p v lastc, JS w0 w b d x lc Lc gc ld Ld nd B u u2 last p v lastc ∧ ∀ q, D q → q < w.heap.size ∧ ¬ Fv b p v q ∧ ¬ Fr d x u u2 q
theorem JS.bel {w0 w : World} {b d x : Nat} {lc ld : Pm} {Lc Ld : List Od} {gc nd : Int} {B : Nat} {u u2 : Value} {last lastc : Int} {p : Value} {v : Nat → Value} (h : JS w0 w b d x lc Lc gc ld Ld nd B u u2 last p v lastc) : Below w0.heap.size w0 w := h.up.bel
theorem JS.below {w0 w w' : World} {b d x : Nat} {lc ld : Pm} {Lc Ld : List Od} {gc nd : Int} {B : Nat} {u u2 : Value} {last lastc : Int} {p : Value} {v : Nat → Value} (h : JS w0 w b d x lc Lc gc ld Ld nd B u u2 last p v lastc) (hb : Below w.heap.size w w') : JS w0 w' b d x lc Lc gc ld Ld nd B u u2 last p v lastc :=
 ⟨h.vt.below hb, h.up.same hb, h.rv.below hb, h.low, h.apart, h.bk, h.num, h.ok, h.len⟩
theorem JE.belowD {w0 w w' : World} {b d x : Nat} {lc ld : Pm} {Lc Ld : List Od} {gc nd : Int} {D D' : Nat → Prop} (h : JE w0 w b d x lc Lc gc ld Ld nd D) (hb : Below w.heap.size w w') (hD : ∀ q, D' q → D q ∨ (w.heap.size ≤ q ∧ q < w'.heap.size)) : JE w0 w' b d x lc Lc gc ld Ld nd D' := by
 obtain ⟨B, u, u2, last, p, v, lastc, h, h2⟩ := h
 refine ⟨B, u, u2, last, p, v, lastc, h.below hb, fun q hq => ?_⟩
 have := hb.size
 rcases hD q hq with e | e
 ·
  obtain ⟨h3, h4⟩ := h2 q e
  exact ⟨by omega, h4⟩
 · exact ⟨e.2, fun hf => by have := h.vt.lows q hf; omega, fun hf => by have := (h.rv.lows q hf).2; omega⟩
theorem JE.below {w0 w w' : World} {b d x : Nat} {lc ld : Pm} {Lc Ld : List Od} {gc nd : Int} {D : Nat → Prop} (h : JE w0 w b d x lc Lc gc ld Ld nd D) (hb : Below w.heap.size w w') : JE w0 w' b d x lc Lc gc ld Ld nd D := h.belowD hb (fun q hq => .inl hq)
theorem JE.bel {w0 w : World} {b d x : Nat} {lc ld : Pm} {Lc Ld : List Od} {gc nd : Int} {D : Nat → Prop} (h : JE w0 w b d x lc Lc gc ld Ld nd D) : Below w0.heap.size w0 w := by
 obtain ⟨B, u, u2, last, p, v, lastc, h, _⟩ := h
 exact h.bel
theorem JE.oks {w0 w : World} {b d x : Nat} {lc ld : Pm} {Lc Ld : List Od} {gc nd : Int} {D : Nat → Prop} (h : JE w0 w b d x lc Lc gc ld Ld nd D) : PmOk ld ∧ (∃ last, Bk Ld last) ∧ PmOk lc ∧ (∃ last, Bk Lc last) ∧ 0 ≤ gc ∧ gc ≤ 1099511627776 ∧ Ld.length ≤ 32 := by
 obtain ⟨B, u, u2, last, p, v, lastc, h, _⟩ := h
 obtain ⟨S, h1, _, h3, _, h5, h6⟩ := h.vt
 have := h3.zero
 exact ⟨h.ok, ⟨_, h.bk⟩, h1.ok, ⟨_, h3⟩, by omega, h6, h.len⟩
theorem JS.code {w0 w w' : World} {b d x : Nat} {lc ld lc' : Pm} {Lc Ld Lc' : List Od} {gc nd gc' : Int} {B : Nat} {u u2 : Value} {last lastc lastc' : Int} {p p' : Value} {v v' : Nat → Value} (h : JS w0 w b d x lc Lc gc ld Ld nd B u u2 last p v lastc)
  (hv : VtAt w' b p' v' lc' Lc' lastc' gc') (ht : Touch (Fv b p v) w w') (hf : ∀ k, Fv b p' v' k → Fv b p v k ∨ w.heap.size ≤ k) : JS w0 w' b d x lc' Lc' gc' ld Ld nd B u u2 last p' v' lastc' :=
 ⟨hv, h.up.step ht hf, h.rv.keep ht h.apart, h.low, fun k hk hn => by
  rcases hf k hn with e | e
  · exact h.apart k hk e
  · have := (h.rv.lows k hk).2; omega, h.bk, h.num, h.ok, h.len⟩
theorem JS.doc {w0 w w' : World} {b d x : Nat} {lc ld ld' : Pm} {Lc Ld Ld' : List Od} {gc nd nd' : Int} {B : Nat} {u u2 u' u2' : Value} {last last' lastc : Int} {p : Value} {v : Nat → Value} (h : JS w0 w b d x lc Lc gc ld Ld nd B u u2 last p v lastc)
  (hr : RvH w' B d x u' u2' (rowsP ld') Ld' last' nd') (ht : Touch (Fr d x u u2) w w') (hf : ∀ k, Fr d x u' u2' k → Fr d x u u2 k ∨ w.heap.size ≤ k) (hbk : Bk Ld' last') (hn : last' < nd' ∧ nd' ≤ 1099511627777) (hok : PmOk ld') (hl : Ld'.length ≤ 32) :
  JS w0 w' b d x lc Lc gc ld' Ld' nd' B u' u2' last' p v lastc := by
 have hlo := h.vt.lows
 refine ⟨?_, ⟨h.up.bel.trans (ht.below h.up.bel.size (fun k hk => by have := (h.rv.lows k hk).1; have := h.low; omega)), h.up.top⟩, hr, h.low, fun k hk hn => ?_, hbk, hn, hok, hl⟩
 ·
  obtain ⟨S, h1, hq⟩ := h.vt
  exact ⟨S, h1.keep ht (fun k hk hd => h.apart k hd hk), hq⟩
 ·
  rcases hf k hk with e | e
  · exact h.apart k e hn
  · have := hlo k hn; omega
theorem je_same {w0 w w' : World} {b d x : Nat} {lc ld : Pm} {Lc Ld : List Od} {gc nd : Int} {B : Nat} {u u2 : Value} {last lastc : Int} {p : Value} {v : Nat → Value} {D : Nat → Prop} (h : JS w0 w b d x lc Lc gc ld Ld nd B u u2 last p v lastc) (hD : ∀ q, D q → q < w.heap.size ∧ ¬ Fv b p v q ∧ ¬ Fr d x u u2 q) (hb : Below w.heap.size w w') : JE w0 w' b d x lc Lc gc ld Ld nd D ∧ Same D w w' :=
 ⟨JE.below ⟨B, u, u2, last, p, v, lastc, h, hD⟩ hb, fun q hq => hb.block q (hD q hq).1⟩
theorem je_code {w0 w w' : World} {b d x : Nat} {lc ld lc' : Pm} {Lc Ld Lc' : List Od} {gc nd gc' : Int} {B : Nat} {u u2 : Value} {last lastc lastc' : Int} {p p' : Value} {v v' : Nat → Value} {D : Nat → Prop} (h : JS w0 w b d x lc Lc gc ld Ld nd B u u2 last p v lastc) (hD : ∀ q, D q → q < w.heap.size ∧ ¬ Fv b p v q ∧ ¬ Fr d x u u2 q)
  (hv : VtAt w' b p' v' lc' Lc' lastc' gc') (ht : Touch (Fv b p v) w w') (hf : ∀ k, Fv b p' v' k → Fv b p v k ∨ w.heap.size ≤ k) : JE w0 w' b d x lc' Lc' gc' ld Ld nd D ∧ Same D w w' :=
 ⟨⟨B, u, u2, last, p', v', lastc', h.code hv ht hf, fun q hq => ⟨by have := (hD q hq).1; have := ht.size; omega, fun hn => by
  rcases hf q hn with e | e
  · exact (hD q hq).2.1 e
  · have := (hD q hq).1; omega, (hD q hq).2.2⟩⟩, fun q hq => ht.block q (hD q hq).1 (hD q hq).2.1⟩
theorem je_doc {w0 w w' : World} {b d x : Nat} {lc ld ld' : Pm} {Lc Ld Ld' : List Od} {gc nd nd' : Int} {B : Nat} {u u2 u' u2' : Value} {last last' lastc : Int} {p : Value} {v : Nat → Value} {D : Nat → Prop} (h : JS w0 w b d x lc Lc gc ld Ld nd B u u2 last p v lastc) (hD : ∀ q, D q → q < w.heap.size ∧ ¬ Fv b p v q ∧ ¬ Fr d x u u2 q)
  (hr : RvH w' B d x u' u2' (rowsP ld') Ld' last' nd') (ht : Touch (Fr d x u u2) w w') (hf : ∀ k, Fr d x u' u2' k → Fr d x u u2 k ∨ w.heap.size ≤ k) (hbk : Bk Ld' last') (hn : last' < nd' ∧ nd' ≤ 1099511627777) (hok : PmOk ld') (hl : Ld'.length ≤ 32) :
  JE w0 w' b d x lc Lc gc ld' Ld' nd' D ∧ Same D w w' :=
 ⟨⟨B, u', u2', last', p, v, lastc, h.doc hr ht hf hbk hn hok hl, fun q hq => ⟨by have := (hD q hq).1; have := ht.size; omega, (hD q hq).2.1, fun hn => by
  rcases hf q hn with e | e
  · exact (hD q hq).2.2 e
  · have := (hD q hq).1; omega⟩⟩, fun q hq => ht.block q (hD q hq).1 (hD q hq).2.2⟩
theorem jPutC (w0 : World) (b d x : Nat) (lc ld : Pm) (Lc Ld : List Od) (gc nd : Int) (s : ByteArray) (i : It4) (D : Nat → Prop) (w : World) (h : JE w0 w b d x lc Lc gc ld Ld nd D) :
  Calls Tryz.prog 17 #[.pointer (some ⟨b, 0, none⟩), .string s, .agg #[.int .i64 i.1, .int .i64 i.2.1, .int .i64 i.2.2.1, .int .i64 i.2.2.2]] w fun e w' => e = .returned (.int .i64 (putC lc s i)) ∧ (JE w0 w' b d x (putL lc s i) Lc gc ld Ld nd D ∧ Same D w w') := by
 obtain ⟨B, u, u2, last, p, v, lastc, h, hD⟩ := h
 obtain ⟨S, hv, hr⟩ := h.vt
 refine (vtPut b p v S lc lastc gc s i w hv).mono ?_
 rintro e w2 hq
 unfold putL putC
 rcases hq with ⟨h1, rfl, hb⟩ | ⟨h1, h2, rfl, hb⟩ | ⟨h1, h2, rfl, p2, hv2, ht2, hf2⟩
 · rw [h1]; exact ⟨rfl, je_same h hD hb⟩
 · rw [h1, h2]; exact ⟨rfl, je_same h hD hb⟩
 · rw [h1, h2]; exact ⟨rfl, je_code h hD ⟨S, hv2, hr⟩ ht2 hf2⟩
theorem jTakeC (w0 : World) (b d x : Nat) (lc ld : Pm) (Lc Ld : List Od) (gc nd : Int) (s : ByteArray) (i : It4) (D : Nat → Prop) (w : World) (h : JE w0 w b d x lc Lc gc ld Ld nd D) :
  Calls Tryz.prog 19 #[.pointer (some ⟨b, 0, none⟩), .string s, .agg #[.int .i64 i.1, .int .i64 i.2.1, .int .i64 i.2.2.1, .int .i64 i.2.2.2]] w fun e w' => e = .returned (.int .i64 (takeC lc s i)) ∧ (JE w0 w' b d x (takeL lc s i) Lc gc ld Ld nd D ∧ Same D w w') := by
 obtain ⟨B, u, u2, last, p, v, lastc, h, hD⟩ := h
 obtain ⟨S, hv, hr⟩ := h.vt
 refine (vtTake b p v S lc lastc gc s i w hv).mono ?_
 rintro e w2 hq
 unfold takeL takeC
 rcases hq with ⟨h1, rfl, hb⟩ | ⟨h1, h2, rfl, hb⟩ | ⟨h1, h2, rfl, p2, hv2, ht2, hf2⟩
 · rw [h1]; exact ⟨rfl, je_same h hD hb⟩
 · rw [h1, h2]; exact ⟨rfl, je_same h hD hb⟩
 · rw [h1, h2]; exact ⟨rfl, je_code h hD ⟨S, hv2, hr⟩ ht2 hf2⟩
theorem touch_d {d x : Nat} {u u2 : Value} {w w' : World} (h : Touch (fun j => j = d) w w') : Touch (Fr d x u u2) w w' := h.mono (fun k e => .inl (.inl e))
theorem je_purses {w0 w w' : World} {b d x : Nat} {lc ld ld' : Pm} {Lc Ld : List Od} {gc nd : Int} {B : Nat} {u u2 : Value} {last lastc : Int} {p : Value} {v : Nat → Value} {D : Nat → Prop} (h : JS w0 w b d x lc Lc gc ld Ld nd B u u2 last p v lastc) (hD : ∀ q, D q → q < w.heap.size ∧ ¬ Fv b p v q ∧ ¬ Fr d x u u2 q) (hs : SetR B d x u2 (rowsP ld') Ld last nd w w') (hok : PmOk ld') : JE w0 w' b d x lc Lc gc ld' Ld nd D ∧ Same D w w' := by
 obtain ⟨u', h1, h2, h3⟩ := hs
 exact je_doc h hD h1 (touch_d h2) (fun k hk => by
  rcases hk with (e | e) | e
  · exact .inl (.inl (.inl e))
  · exact .inr (h3 k e)
  · exact .inl (.inr e)) h.bk h.num hok h.len
theorem jPutD (w0 : World) (b d x : Nat) (lc ld : Pm) (Lc Ld : List Od) (gc nd : Int) (s : ByteArray) (i : It4) (D : Nat → Prop) (w : World) (h : JE w0 w b d x lc Lc gc ld Ld nd D) (hlen : ld.length ≤ 1000) :
  Calls Tryz.prog 18 #[.pointer (some ⟨d, 0, none⟩), .string s, .agg #[.int .i64 i.1, .int .i64 i.2.1, .int .i64 i.2.2.1, .int .i64 i.2.2.2]] w fun e w' => e = .returned (.int .i64 (putC ld s i)) ∧ (JE w0 w' b d x lc Lc gc (putL ld s i) Ld nd D ∧ Same D w w') := by
 obtain ⟨B, u, u2, last, p, v, lastc, h, hD⟩ := h
 refine (refPutP B d x u u2 ld Ld last nd s i w h.rv h.ok hlen).mono ?_
 rintro e w2 hq
 unfold putL putC
 rcases hq with ⟨h1, rfl, hb⟩ | ⟨h1, h2, rfl, hb⟩ | ⟨h1, h2, rfl, hs⟩
 · rw [h1]; exact ⟨rfl, je_same h hD hb⟩
 · rw [h1, h2]; exact ⟨rfl, je_same h hD hb⟩
 ·
  rw [h1, h2]
  exact ⟨rfl, je_purses h hD hs (h.ok.set (mayB_key h1).1 h2)⟩
theorem jTakeD (w0 : World) (b d x : Nat) (lc ld : Pm) (Lc Ld : List Od) (gc nd : Int) (s : ByteArray) (i : It4) (D : Nat → Prop) (w : World) (h : JE w0 w b d x lc Lc gc ld Ld nd D) (hlen : ld.length ≤ 1000) :
  Calls Tryz.prog 20 #[.pointer (some ⟨d, 0, none⟩), .string s, .agg #[.int .i64 i.1, .int .i64 i.2.1, .int .i64 i.2.2.1, .int .i64 i.2.2.2]] w fun e w' => e = .returned (.int .i64 (takeC ld s i)) ∧ (JE w0 w' b d x lc Lc gc (takeL ld s i) Ld nd D ∧ Same D w w') := by
 obtain ⟨B, u, u2, last, p, v, lastc, h, hD⟩ := h
 refine (refTakeP B d x u u2 ld Ld last nd s i w h.rv h.ok hlen).mono ?_
 rintro e w2 hq
 unfold takeL takeC
 rcases hq with ⟨h1, rfl, hb⟩ | ⟨h1, h2, rfl, hb⟩ | ⟨h1, h2, rfl, hs⟩
 · rw [h1]; exact ⟨rfl, je_same h hD hb⟩
 · rw [h1, h2]; exact ⟨rfl, je_same h hD hb⟩
 ·
  rw [h1, h2]
  exact ⟨rfl, je_purses h hD hs (h.ok.set (mayB_key h1).1 (subI_is (h.ok.has _) (mayB_key h1).2 h2))⟩
def OrdX (l : Pm) (L : List Od) (g : Int) (o : Od) (n c : Int) (l' : Pm) (L' : List Od) (g' : Int) : Prop :=
 (¬ (OkO (o.num 1) ∧ room L g ∧ lessI (hasP l o.who.data.toList) (heldP o) = false) ∧ n = 0 ∧ c = ordC L (g + 1) o ∧ l' = l ∧ L' = L ∧ g' = g) ∨
 (OkO (o.num 1) ∧ room L g ∧ lessI (hasP l o.who.data.toList) (heldP o) = false ∧ n = g + 1 ∧ c = 0 ∧ g' = g + 1 ∧ ∃ T o1 L1, Places (o.num (g + 1)) L T o1 L1 ∧
  l' = T.foldl settleP (setP l o.who.data.toList (subI (hasP l o.who.data.toList) (heldP o))) ∧ L' = laid o1 L1)
theorem OrdX.det {l : Pm} {L : List Od} {last g : Int} {o : Od} {n1 c1 n2 c2 : Int} {l1 l2 : Pm} {L1 L2 : List Od} {g1 g2 : Int} (hk : Bk L last) (h1 : OrdX l L g o n1 c1 l1 L1 g1) (h2 : OrdX l L g o n2 c2 l2 L2 g2) : n1 = n2 ∧ c1 = c2 ∧ l1 = l2 ∧ L1 = L2 ∧ g1 = g2 := by
 rcases h1 with ⟨a, rfl, rfl, rfl, rfl, rfl⟩ | ⟨a1, a2, a3, rfl, rfl, rfl, T, o1, M, hp, rfl, rfl⟩
 ·
  rcases h2 with ⟨_, rfl, rfl, rfl, rfl, rfl⟩ | ⟨b1, b2, b3, _⟩
  · exact ⟨rfl, rfl, rfl, rfl, rfl⟩
  · exact absurd ⟨b1, b2, b3⟩ a
 ·
  rcases h2 with ⟨b, _⟩ | ⟨_, _, _, rfl, rfl, rfl, T2, o2, M2, hp2, rfl, rfl⟩
  · exact absurd ⟨a1, a2, a3⟩ b
  ·
   obtain ⟨rfl, rfl, rfl⟩ := hp.det hk hp2
   exact ⟨rfl, rfl, rfl, rfl, rfl⟩
theorem jOrdC (w0 : World) (b d x : Nat) (lc ld : Pm) (Lc Ld : List Od) (gc nd : Int) (o : Od) (D : Nat → Prop) (w : World) (h : JE w0 w b d x lc Lc gc ld Ld nd D) :
  Calls Tryz.prog 12 #[.pointer (some ⟨b, 0, none⟩), .agg #[.int .i64 o.id, .string o.who, .bool o.buy, .int .i64 o.item, .int .i64 o.ct, .int .i64 o.pr]] w fun e w' => ∃ n c lc' Lc' gc', e = .returned (.tuple #[.int .i64 n, .int .i64 c]) ∧ (JE w0 w' b d x lc' Lc' gc' ld Ld nd D ∧ Same D w w') ∧ OrdX lc Lc gc o n c lc' Lc' gc' := by
 obtain ⟨B, u, u2, last, p, v, lastc, h, hD⟩ := h
 refine (vtOrder b p v lc Lc lastc gc o w h.vt).mono ?_
 rintro e w2 hq
 rcases hq with ⟨c, hc, ⟨hc1, hc2, hc3⟩, hno, rfl, hb⟩ | ⟨h1, h2, h3, rfl, T, o1, L1, p', v', hpl, hv', ht', hf'⟩
 ·
  refine ⟨0, c, lc, Lc, gc, rfl, je_same h hD hb, .inl ⟨hno, rfl, ?_, rfl, rfl, rfl⟩⟩
  unfold ordC
  by_cases hok : OkO (o.num 1)
  ·
   rw [if_pos hok]
   by_cases hr : room Lc gc
   · rw [if_pos (by obtain ⟨a, b⟩ := hr; exact ⟨a, by omega⟩), hc1 hok hr]
   · rw [if_neg (fun hh => hr ⟨hh.1, by omega⟩), hc3 hok hr]
  · rw [if_neg hok, hc2 hok]
 · exact ⟨gc + 1, 0, _, _, gc + 1, rfl, je_code h hD hv' ht' hf', .inr ⟨h1, h2, h3, rfl, rfl, rfl, T, o1, L1, hpl, rfl, rfl⟩⟩
theorem jOrdD (w0 : World) (b d x : Nat) (lc ld : Pm) (Lc Ld : List Od) (gc g : Int) (o : Od) (Nm : List By) (D : Nat → Prop) (w : World) (h : JE w0 w b d x lc Lc gc ld Ld (g + 1) D) (hnm : Nms Nm ld Ld) (hNl : Nm.length ≤ 900) :
  Calls Tryz.prog 13 #[.pointer (some ⟨d, 0, none⟩), .agg #[.int .i64 o.id, .string o.who, .bool o.buy, .int .i64 o.item, .int .i64 o.ct, .int .i64 o.pr]] w fun e w' => ∃ n c ld' Ld' g', e = .returned (.tuple #[.int .i64 n, .int .i64 c]) ∧ (JE w0 w' b d x lc Lc gc ld' Ld' (g' + 1) D ∧ Same D w w') ∧ OrdX ld Ld g o n c ld' Ld' g' := by
 obtain ⟨B, u, u2, last, p, v, lastc, h, hD⟩ := h
 refine (refOrder B d x u u2 ld Ld last (g + 1) o Nm w h.rv h.ok h.bk h.len h.num hnm hNl).mono ?_
 rintro e w2 hq
 rcases hq with ⟨hno, rfl, hb⟩ | ⟨h1, h2, h3, rfl, T, o1, L1, u', u2', hpl, hr', ht', hf'⟩
 · exact ⟨0, ordC Ld (g + 1) o, ld, Ld, g, rfl, je_same h hD hb, .inl ⟨fun hh => hno ⟨hh.1, ⟨hh.2.1.1, by have := hh.2.1.2; omega⟩, hh.2.2⟩, rfl, rfl, rfl, rfl, rfl⟩⟩
 ·
  have hz := h.bk.zero
  have hgo : OkO (o.num (g + 1)) := ⟨by show 1 ≤ g + 1 ∧ g + 1 ≤ 1099511627776; have := h.num; omega, h1.who, h1.item, h1.ct, h1.pr⟩
  have hpm : PmOk (setP ld o.who.data.toList (subI (hasP ld o.who.data.toList) (heldP o))) := h.ok.set (keyOk_of h1.who) (subI_is (h.ok.has _) (by have := held_is h1; rwa [held_num] at this) h3)
  have hpm2 := hpm.settlesV (hpl.tds hgo.r h.bk)
  obtain ⟨q1, q2, q3, _, q5, q6, q7, _, _, q10⟩ := hpl.bk h.bk
  have k1 : Bk (laid o1 L1) (g + 1) := q1.laid hgo (by show last < g + 1; have := h.num; omega) q2 q3 q5 q6 q7
  have k2 : (laid o1 L1).length ≤ 32 := by
   have := h2.1
   unfold Go.Proofs.YtdlbiobjnohfbaaGreat.laid
   split
   · rw [List.length_append]; simp; omega
   · omega
  exact ⟨g + 1, 0, _, _, g + 1, rfl, je_doc h hD hr' ht' hf' k1 (by omega) hpm2 k2, .inr ⟨h1, ⟨h2.1, by omega⟩, h3, rfl, rfl, rfl, T, o1, L1, hpl, rfl, rfl⟩⟩
def CanX (l : Pm) (L : List Od) (s : ByteArray) (id : Int) (c : Int) (l' : Pm) (L' : List Od) : Prop :=
 ((∀ z ∈ L, ¬ (z.id = id ∧ z.who = s)) ∧ c = 7 ∧ l' = l ∧ L' = L) ∨ (∃ z ∈ L, z.id = id ∧ z.who = s ∧ c = 0 ∧ l' = gainsP l s (heldP z) 4 ∧ L' = goneO id L)
theorem CanX.det {l : Pm} {L : List Od} {last : Int} {s : ByteArray} {id : Int} {c1 c2 : Int} {l1 l2 : Pm} {L1 L2 : List Od} (hk : Bk L last) (h1 : CanX l L s id c1 l1 L1) (h2 : CanX l L s id c2 l2 L2) : c1 = c2 ∧ l1 = l2 ∧ L1 = L2 := by
 rcases h1 with ⟨a, rfl, rfl, rfl⟩ | ⟨z, hz, e1, e2, rfl, rfl, rfl⟩
 ·
  rcases h2 with ⟨_, rfl, rfl, rfl⟩ | ⟨y, hy, f1, f2, _⟩
  · exact ⟨rfl, rfl, rfl⟩
  · exact absurd ⟨f1, f2⟩ (a y hy)
 ·
  rcases h2 with ⟨b, _⟩ | ⟨y, hy, f1, f2, rfl, rfl, rfl⟩
  · exact absurd ⟨e1, e2⟩ (b z hz)
  ·
   have e : z = y := hk.ids.inj hz hy (e1.trans f1.symm)
   subst e
   exact ⟨rfl, rfl, rfl⟩
theorem jCanC (w0 : World) (b d x : Nat) (lc ld : Pm) (Lc Ld : List Od) (gc nd : Int) (s : ByteArray) (id : Int) (D : Nat → Prop) (w : World) (h : JE w0 w b d x lc Lc gc ld Ld nd D) :
  Calls Tryz.prog 21 #[.pointer (some ⟨b, 0, none⟩), .string s, .int .i64 id] w fun e w' => ∃ c lc' Lc', e = .returned (.int .i64 c) ∧ (JE w0 w' b d x lc' Lc' gc ld Ld nd D ∧ Same D w w') ∧ CanX lc Lc s id c lc' Lc' := by
 obtain ⟨B, u, u2, last, p, v, lastc, h, hD⟩ := h
 refine (vtCancel b p v lc Lc lastc gc s id w h.vt).mono ?_
 rintro e w2 hq
 rcases hq with ⟨h1, rfl, hb⟩ | ⟨z, hz, h1, h2, rfl, p', v', hv', ht', hf'⟩
 · exact ⟨7, lc, Lc, rfl, je_same h hD hb, .inl ⟨h1, rfl, rfl, rfl⟩⟩
 · exact ⟨0, _, _, rfl, je_code h hD hv' ht' hf', .inr ⟨z, hz, h1, h2, rfl, rfl, rfl⟩⟩
theorem jCanD (w0 : World) (b d x : Nat) (lc ld : Pm) (Lc Ld : List Od) (gc nd : Int) (s : ByteArray) (id : Int) (Nm : List By) (D : Nat → Prop) (w : World) (h : JE w0 w b d x lc Lc gc ld Ld nd D) (hnm : Nms Nm ld Ld) (hNl : Nm.length ≤ 900) :
  Calls Tryz.prog 22 #[.pointer (some ⟨d, 0, none⟩), .string s, .int .i64 id] w fun e w' => ∃ c ld' Ld', e = .returned (.int .i64 c) ∧ (JE w0 w' b d x lc Lc gc ld' Ld' nd D ∧ Same D w w') ∧ CanX ld Ld s id c ld' Ld' := by
 obtain ⟨B, u, u2, last, p, v, lastc, h, hD⟩ := h
 refine (refVCancel B d x u u2 ld Ld last nd s id Nm w h.rv h.ok h.bk h.len hnm hNl).mono ?_
 rintro e w2 hq
 rcases hq with ⟨h1, rfl, hb⟩ | ⟨z, hz, h1, h2, rfl, u', u2', hr', ht', hf'⟩
 · exact ⟨7, ld, Ld, rfl, je_same h hD hb, .inl ⟨h1, rfl, rfl, rfl⟩⟩
 ·
  have hok : PmOk (gainsP ld s (heldP z) 4) := gains_ok h.ok (by rw [← h2]; exact keyOk_of (h.bk.ok z hz).who) (fun j => (held_comp (h.bk.ok z hz) j).1) 4 (by omega)
  exact ⟨0, _, _, rfl, je_doc h hD hr' ht' hf' (h.bk.gone id) h.num hok (Nat.le_trans (List.length_filter_le _ _) h.len), .inr ⟨z, hz, h1, h2, rfl, rfl, rfl⟩⟩
theorem jHasC (w0 : World) (b d x : Nat) (lc ld : Pm) (Lc Ld : List Od) (gc nd : Int) (s : ByteArray) {i0 i1 i2 i3 : Int} (hi : hasP lc s.data.toList = (i0, i1, i2, i3)) (D : Nat → Prop) (w : World) (h : JE w0 w b d x lc Lc gc ld Ld nd D) :
  Calls Tryz.prog 23 #[.pointer (some ⟨b, 0, none⟩), .string s] w fun e w' => e = .returned (.agg #[.int .i64 i0, .int .i64 i1, .int .i64 i2, .int .i64 i3]) ∧ Below w.heap.size w w' := by
 obtain ⟨B, u, u2, last, p, v, lastc, h, hD⟩ := h
 obtain ⟨S, h1, _⟩ := h.vt
 refine (vtHas b _ _ s w h1.bk.whl.low h1.cell h1.pu).mono ?_
 rintro e w9 ⟨he, hb9⟩
 rw [hi] at he
 exact ⟨he, hb9⟩
theorem jHasD (w0 : World) (b d x : Nat) (lc ld : Pm) (Lc Ld : List Od) (gc nd : Int) (s : ByteArray) {i0 i1 i2 i3 : Int} (hi : hasP ld s.data.toList = (i0, i1, i2, i3)) (D : Nat → Prop) (w : World) (h : JE w0 w b d x lc Lc gc ld Ld nd D) (hlen : ld.length ≤ 1000) :
  Calls Tryz.prog 24 #[.pointer (some ⟨d, 0, none⟩), .string s] w fun e w' => e = .returned (.agg #[.int .i64 i0, .int .i64 i1, .int .i64 i2, .int .i64 i3]) ∧ Below w.heap.size w w' := by
 obtain ⟨B, u, u2, last, p, v, lastc, h, hD⟩ := h
 exact refHas d u (rowsP ld) s (by rw [rowsP_has h.ok.1]; exact hi) w h.rv.rl (rowsP_sorted h.ok.1) (by rw [rowsP_len]; omega)
theorem putL_nms {l : Pm} {L : List Od} {N : List By} (h : Nms N l L) (s : ByteArray) (i : It4) : Nms (s.data.toList :: N) (putL l s i) L := by
 unfold putL
 split
 · exact h.set _ _
 · exact h.more _
theorem takeL_nms {l : Pm} {L : List Od} {N : List By} (h : Nms N l L) (s : ByteArray) (i : It4) : Nms (s.data.toList :: N) (takeL l s i) L := by
 unfold takeL
 split
 · exact h.set _ _
 · exact h.more _
theorem OrdX.nms {N : List By} {l : Pm} {L : List Od} {g : Int} {o : Od} {n c : Int} {l' : Pm} {L' : List Od} {g' : Int} (h : OrdX l L g o n c l' L' g') (hn : Nms N l L) : Nms (o.who.data.toList :: N) l' L' := by
 rcases h with ⟨_, _, _, rfl, rfl, _⟩ | ⟨_, _, _, _, _, _, T, o1, L1, hp, rfl, rfl⟩
 · exact hn.more _
 · exact Nms.order (o := o.num (g + 1)) hn hp
theorem CanX.nms {N : List By} {l : Pm} {L : List Od} {s : ByteArray} {id c : Int} {l' : Pm} {L' : List Od} (h : CanX l L s id c l' L') (hn : Nms N l L) : Nms (s.data.toList :: N) l' L' := by
 rcases h with ⟨_, _, rfl, rfl⟩ | ⟨z, _, _, _, _, rfl, rfl⟩
 · exact hn.more _
 · exact hn.cancel _ _ _
end Go.Proofs.YtdlbiobjnohfbaaGreat
