/- vault: what Decode makes of bytes, pure. vault: the code's takePurses. -/
import Derived.Test.YtdlbiobjnohfbaaGreatVb32
namespace Go.Proofs.YtdlbiobjnohfbaaGreat
open Go.RowKit Go.ChangeMaps Go.MapKept
set_option linter.unusedVariables false
set_option linter.unusedSimpArgs false
abbrev Rs := Option (List Nat)
def itR (s : Rs) : It4 := (((nx s).1 : Int), ((nx (nx s).2).1 : Int), ((nx (nx (nx s).2).2).1 : Int), ((nx (nx (nx (nx s).2).2).2).1 : Int))
def itE (s : Rs) : Rs := (nx (nx (nx (nx s).2).2).2).2
def rowOk (a : By) (k : ByteArray) (i : It4) : Prop := BL a k.data.toList ∧ i ≠ z4 ∧ mayB k i = true
instance (a : By) (k : ByteArray) (i : It4) : Decidable (rowOk a k i) := inferInstanceAs (Decidable (_ ∧ _ ∧ _))
def rS : Nat → By → Rs → List Hd × Rs
 | 0, _, s => ([], s)
 | n + 1, a, s => if s ≠ none ∧ itE (nb s).2 ≠ none ∧ rowOk a (strU (nb s).1) (itR (nb s).2) then
   (((strU (nb s).1).data.toList, itR (nb s).2) :: (rS n (strU (nb s).1).data.toList (itE (nb s).2)).1, (rS n (strU (nb s).1).data.toList (itE (nb s).2)).2) else ([], none)
def odR (s : Rs) : Od := ⟨((nx s).1 : Int), strU (nb (nx s).2).1, decide ((itR (nb (nx s).2).2).1 = 1), (itR (nb (nx s).2).2).2.1, (itR (nb (nx s).2).2).2.2.1, (itR (nb (nx s).2).2).2.2.2⟩
def odE (s : Rs) : Rs := itE (nb (nx s).2).2
def odF (s : Rs) : Int := (itR (nb (nx s).2).2).1
def oS : Nat → Rs → List Od × Rs
 | 0, s => ([], s)
 | n + 1, s => if s ≠ none ∧ odE s ≠ none ∧ odF s ≤ 1 then (odR s :: (oS n (odE s)).1, (oS n (odE s)).2) else ([], none)
def vR (xs : List Nat) : List Hd × Rs := rS (nx (some xs)).1 [] (nx (some xs)).2
def vO (xs : List Nat) : List Od × Rs := oS (nx (vR xs).2).1 (nx (vR xs).2).2
def vN (xs : List Nat) : Int := ((nx (vO xs).2).1 : Int)
theorem rS_none : ∀ (n : Nat) (a : By), rS n a none = ([], none)
 | 0, _ => rfl
 | n + 1, a => by simp [rS]
theorem oS_none : ∀ (n : Nat), oS n none = ([], none)
 | 0 => rfl
 | n + 1 => by simp [oS]
theorem nx_lenV (s : Rs) : ((nx s).2.getD []).length ≤ (s.getD []).length := by
 cases s with
 | none => simp [nx]
 | some r =>
  simp only [nx]
  cases h : rd 0 0 r with
  | none => simp
  | some p => obtain ⟨n, t⟩ := p; exact (rd_suffix r 0 0 n t h).1
theorem nx_oneV {s : Rs} (h : (nx s).2 ≠ none) : ((nx s).2.getD []).length + 1 ≤ (s.getD []).length := by
 cases s with
 | none => exact absurd rfl h
 | some r =>
  cases r with
  | nil => exact absurd rfl h
  | cons x t =>
   simp only [nx] at h ⊢
   cases hr : rd 0 0 (x :: t) with
   | none => rw [hr] at h; exact absurd rfl h
   | some p =>
    obtain ⟨n, q⟩ := p
    simp only [Option.getD_some, List.length_cons]
    rw [rd] at hr
    split at hr
    · cases hr
    ·
     rename_i hk
     split at hr
     · have := (rd_suffix t _ _ n q hr).1; omega
     ·
      split at hr
      · cases hr
      ·
       simp only [Option.some.injEq, Prod.mk.injEq] at hr
       rw [← hr.2]; exact Nat.le_refl _
theorem nb_ne {s : Rs} (h : (nb s).2 ≠ none) : (nx s).2 ≠ none := by
 intro e
 apply h
 unfold nb
 rw [show nx s = ((nx s).1, (nx s).2) from rfl, e]
theorem nb_lenV (s : Rs) : ((nb s).2.getD []).length ≤ ((nx s).2.getD []).length ∧ (nb s).1.length ≤ (s.getD []).length := by
 have h := nx_lenV s
 unfold nb
 split
 ·
  rename_i n r e
  rw [e] at h ⊢
  simp only [Option.getD_some] at h
  split
  · simp only [Option.getD_some, List.length_drop, List.length_take]; omega
  · simp
 · simp
theorem nx_neV {s : Rs} (h : (nx s).2 ≠ none) : s ≠ none := fun e => h (by rw [e]; rfl)
theorem itE_ne {s : Rs} (h : itE s ≠ none) : ((itE s).getD []).length + 4 ≤ (s.getD []).length ∧ s ≠ none := by
 unfold itE at h ⊢
 have h3 := nx_neV h
 have h2 := nx_neV h3
 have h1 := nx_neV h2
 have a := nx_oneV h
 have b := nx_oneV h3
 have c := nx_oneV h2
 have d := nx_oneV h1
 exact ⟨by omega, nx_neV h1⟩
theorem odE_ne {s : Rs} (h : odE s ≠ none) : ((odE s).getD []).length + 6 ≤ (s.getD []).length := by
 unfold odE at h ⊢
 obtain ⟨h1, h2⟩ := itE_ne h
 have h3 := nb_ne h2
 have h5 := nx_oneV h3
 have h4 := (nb_lenV (nx s).2).1
 have h6 := nx_oneV (nx_neV h3)
 omega
def Chn : By → List Hd → Prop
 | _, [] => True
 | a, r :: t => BL a r.1 ∧ r.2 ≠ z4 ∧ isI r.2 = true ∧ KeyOk r.1 ∧ Chn r.1 t
theorem Chn.lt : ∀ {l : List Hd} {a : By}, Chn a l → ∀ r ∈ l, BL a r.1
 | [], _, _, r, h => by cases h
 | x :: t, a, h, r, hr => by
  obtain ⟨h1, _, _, _, h2⟩ := h
  rcases List.mem_cons.1 hr with rfl | hr
  · exact h1
  · exact BL.trans h1 (h2.lt r hr)
theorem Chn.sorted : ∀ {l : List Hd} {a : By}, Chn a l → SortedH l
 | [], _, _ => List.Pairwise.nil
 | x :: t, a, h => List.Pairwise.cons (fun r hr => h.2.2.2.2.lt r hr) h.2.2.2.2.sorted
theorem Chn.ok {l : List Hd} {a : By} (h : Chn a l) : PmOk l := by
 refine ⟨h.sorted.nodup, ?_⟩
 induction l generalizing a with
 | nil => intro p hp; cases hp
 | cons x t ih =>
  intro p hp
  rcases List.mem_cons.1 hp with rfl | hp
  · exact ⟨h.2.1, h.2.2.1, h.2.2.2.1⟩
  · exact ih h.2.2.2.2 p hp
theorem has_self : ∀ {l : List Hd}, (l.map (·.1)).Nodup → (l.map (·.1)).map (fun k => (k, hasP l k)) = l := by
 intro l hn
 rw [List.map_map]
 conv => rhs; rw [← List.map_id l]
 refine List.map_congr_left (fun p hp => ?_)
 simp only [Function.comp]
 rw [has_mem hn hp]; rfl
theorem pair_eq {α : Type} {R : α → α → Prop} (hirr : ∀ a, ¬ R a a) (htr : ∀ a b c, R a b → R b c → R a c) : ∀ {l m : List α}, l.Perm m → l.Pairwise R → m.Pairwise R → l = m := by
 intro l m hp hl hm
 exact hp.eq_of_pairwise (fun a b _ _ h1 h2 => absurd (htr a b a h1 h2) (hirr a)) hl hm
theorem rowsP_self {l : List Hd} (h : SortedH l) : rowsP l = l := by
 have hn := h.nodup
 have e : keysP l = l.map (·.1) := by
  refine pair_eq (R := BL) (fun a e => e.ne rfl) (fun a b c => BL.trans) (sortB_perm _) (keysP_sorted hn) ?_
  rw [List.pairwise_map]; exact h
 unfold rowsP
 rw [e]
 exact has_self hn
theorem put1_new {α β : Type} [DecidableEq α] {k : α} {v : β} : ∀ {l : List (α × β)}, k ∉ l.map (·.1) → put1 k v l = l ++ [(k, v)]
 | [], _ => rfl
 | (a, x) :: r, h => by
  simp only [List.map_cons, List.mem_cons, not_or] at h
  simp only [put1]
  rw [if_neg (fun e => h.1 e.symm), put1_new h.2]; rfl
theorem setP_new {l : Pm} {k : By} {i : It4} (hi : i ≠ z4) (hk : k ∉ l.map (·.1)) : setP l k i = l ++ [(k, i)] := by
 unfold setP
 rw [if_neg hi, put1_new hk]
structure RV (w0 w : World) (vb rb : Nat) (p : Value) (l : Pm) (s : Rs) : Prop where
 vt : VtH w vb p (fun _ => .slice none 0 0) (fun _ => []) l 0 0
 rs : RS w rb s
 lt : vb < rb
 mp : ∀ k, mb p = some k → rb < k
 low : w0.heap.size ≤ vb
 bel : Below w0.heap.size w0 w
theorem RV.fv {w0 w : World} {vb rb : Nat} {p : Value} {l : Pm} {s : Rs} (h : RV w0 w vb rb p l s) {k : Nat} (hk : Fv vb p (fun _ => .slice none 0 0) k) : k = vb ∨ (rb < k ∧ mb p = some k) := by
 rcases hk with (rfl | ⟨i, _, e⟩) | e
 · exact .inl rfl
 · cases e
 · exact .inr ⟨h.mp k e, e⟩
theorem RV.read {w0 w w' : World} {vb rb : Nat} {p : Value} {l : Pm} {s s' : Rs} (h : RV w0 w vb rb p l s) (ht : Tch rb w w') (hr : RS w' rb s') : RV w0 w' vb rb p l s' :=
 ⟨h.vt.keep ht.touch (fun k hk e => by have := h.lt; rcases h.fv hk with e2 | e2 <;> omega), hr, h.lt, h.mp, h.low, h.bel.trans (ht.below (by have := h.lt; have := h.low; omega) h.bel.size)⟩
theorem RV.below {w0 w w' : World} {vb rb : Nat} {p : Value} {l : Pm} {s : Rs} (h : RV w0 w vb rb p l s) (hb : Below w.heap.size w w') : RV w0 w' vb rb p l s :=
 ⟨h.vt.below hb, h.rs.fresh hb, h.lt, h.mp, h.low, h.bel.trans (hb.mono h.bel.size)⟩
theorem RV.alloc {w0 w : World} {vb rb : Nat} {p : Value} {l : Pm} {s : Rs} (h : RV w0 w vb rb p l s) (o : Obj) : RV w0 (w.alloc o) vb rb p l s := h.below ((Below.refl _ _).alloc (Nat.le_refl _) _)
theorem RV.far {w0 w : World} {vb rb : Nat} {p : Value} {l : Pm} {s : Rs} (h : RV w0 w vb rb p l s) {g i : Nat} {t : TypeId} {cs : Array Value} (hg : Whl w g t cs) (hn : noU8 cs) (h1 : rb < g) (h2 : mb p ≠ some g) (v : Value) : RV w0 (w.setCell ⟨g, i, none⟩ v) vb rb p l s :=
 ⟨h.vt.keep (D := fun k => k = g) ((Touch.refl _ _).set (fun _ => rfl)) (fun k hk e => by have := h.lt; rcases h.fv hk with e2 | e2; (omega); exact h2 (by rw [← e]; exact e2.2)), h.rs.setBlk hg hn (by omega) v, h.lt, h.mp, h.low,
  h.bel.trans ⟨rfl, rfl, rfl, by simp [World.setCell], fun k hk => Below.heap_setCell _ _ _ _ (by have := h.lt; have := h.low; simp; omega)⟩⟩
theorem RV.novb {w0 w : World} {vb rb : Nat} {p : Value} {l : Pm} {s : Rs} (h : RV w0 w vb rb p l s) (o : Nat) (x : Int) : w.cell? ⟨vb, o, none⟩ ≠ some (.int .u8 x) := by
 intro hc
 rw [h.vt.bk.whl.cell] at hc
 have hpm : ∃ m, p = .map m := by rcases h.vt.pu with ⟨rfl, _⟩ | ⟨m, rfl, _⟩ <;> exact ⟨_, rfl⟩
 obtain ⟨m, rfl⟩ := hpm
 simp only [lay1] at hc
 match o, hc with
 | 0, hc => simp at hc
 | 1, hc => simp at hc
 | 2, hc => simp at hc
 | 3, hc => simp at hc
 | 4, hc => simp at hc
 | 5, hc => simp at hc
 | 6, hc => simp at hc
 | 7, hc => simp at hc
 | 8, hc => simp at hc
 | 9, hc => simp at hc
 | 10, hc => simp at hc
 | n + 11, hc => simp at hc
theorem RV.set {w0 w w' : World} {vb rb : Nat} {p : Value} {l l' : Pm} {s : Rs} (h : RV w0 w vb rb p l s) (hq : SetQ vb p (fun _ => .slice none 0 0) (fun _ => []) l' 0 0 w w') : ∃ p', RV w0 w' vb rb p' l' s := by
 obtain ⟨p', h1, h2, h3⟩ := hq
 have hlt := h.lt
 refine ⟨p', h1, h.rs.touchV h2 (fun k hk => ⟨?_, fun o x hc => ?_⟩), h.lt, fun k hk => ?_, h.low, h.bel.trans (h2.below h.bel.size (fun k hk => ?_))⟩
 · rcases h.fv hk with e | e <;> omega
 ·
  rcases h.fv hk with rfl | ⟨_, e⟩
  · exact h.novb o x hc
  ·
   rcases h.vt.pu with ⟨rfl, _⟩ | ⟨m, rfl, hm⟩
   · cases e
   ·
    simp only [mb, Option.some.injEq] at e
    subst e
    obtain ⟨es, cl, hb, _⟩ := hm
    simp [World.cell?, hb] at hc
 ·
  have := h.rs.low
  rcases h3 k (.inr hk) with e | e
  ·
   rcases h.fv e with e | e
   · exact absurd (e ▸ hk) h1.ne
   · exact e.1
  · omega
 ·
  have := h.low
  rcases h.fv hk with e | e <;> omega
theorem noU8_it (a b c d : Int) : noU8 #[.int .i64 a, .int .i64 b, .int .i64 c, .int .i64 d] := by
 intro i x h
 match i with
 | 0 => cases h
 | 1 => cases h
 | 2 => cases h
 | 3 => cases h
 | n + 4 => simp at h
set_option maxHeartbeats 8000000 in
set_option maxRecDepth 10000 in
theorem vtTakePurses (w0 : World) (vb rb : Nat) (p : Value) (s : Rs) (w : World) (h : RV w0 w vb rb p [] s) :
  Calls Tryz.prog 32 #[.pointer (some ⟨vb, 0, none⟩), .pointer (some ⟨rb, 0, none⟩)] w fun e w' => e = .returned (.tuple #[]) ∧ ∃ p' l', RV w0 w' vb rb p' l' (rS (nx s).1 [] (nx s).2).2 ∧ ((rS (nx s).1 [] (nx s).2).2 ≠ none → l' = (rS (nx s).1 [] (nx s).2).1) := by
 have HV := Lib.hid h
 obtain ⟨R, hR⟩ : ∃ R, R = rS (nx s).1 [] (nx s).2 := ⟨_, rfl⟩
 rw [← hR]
 have HR := Lib.hid hR
 clear h hR
 go_enter Tryz.func32, Tryz.ntmps32
 go_wp2_with fail
 refine (octNxT rb s _ HV.out.rs).mono ?_
 rintro e w1 ⟨rfl, hrs, ht⟩
 have hv1 := HV.out.read ht hrs
 have hnl := nx_le s
 clear hrs ht HV
 obtain ⟨N, hN⟩ : ∃ N, N = (nx s).1 := ⟨_, rfl⟩
 obtain ⟨s1, hs1⟩ : ∃ t, t = (nx s).2 := ⟨_, rfl⟩
 replace HR : Hid (R = rS N [] s1) := Lib.hid (by rw [hN, hs1]; exact HR.out)
 rw [← hN] at hnl ⊢
 rw [← hs1] at hv1
 clear hN hs1
 have HV1 := Lib.hid hv1
 clear hv1
 go_wp2_with fail
 go_loopw [5, 4] (fun nv av wr => ∃ (k : Nat) (sa : ByteArray) (t : Rs) (p2 : Value) (l : Pm), nv = .int .i64 k ∧ av = .string sa ∧ k ≤ N ∧ RV w0 wr vb rb p2 l t ∧ R.2 = (rS k sa.data.toList t).2 ∧ (t ≠ none → R.1 = l ++ (rS k sa.data.toList t).1 ∧ ∀ r ∈ l, ¬ BL sa.data.toList r.1)) (fun nv _ _ => (intOf nv).toNat)
 case atStart => exact ⟨N, ⟨#[]⟩, s1, p, [], rfl, rfl, Nat.le_refl _, HV1.out, by rw [HR.out], fun _ => ⟨by rw [HR.out]; rfl, by simp⟩⟩
 case round =>
  obtain ⟨k, sa, t, p2, l, rfl, rfl, hk, hv, hs1, hs2⟩ := hrel
  have HV := Lib.hid hv
  have HS1 := Lib.hid hs1
  have HS2 := Lib.hid hs2
  clear hv hs1 hs2 HV1
  cases k with
  | zero =>
   go_wp2_with fail
   refine bodyPost_end (v := .tuple #[]) (by simp [results, Tryz.results32, go_sem]) rfl ⟨rfl, p2, l, by rw [HS1.out]; exact HV.out, fun hn => ?_⟩
   rw [HS1.out] at hn
   rw [(HS2.out hn).1]
   simp [rS]
  | succ k =>
   have q0 : (0 : Int) < ((k + 1 : Nat) : Int) := by omega
   cases t with
   | none =>
    go_wp2_with (first
     | (go_at_call 77; refine (octGoodV rb none _ HV.out.rs).mono ?_; rintro e wq ⟨rfl, rfl⟩)
     | fail)
    refine bodyPost_end (v := .tuple #[]) (by simp [results, Tryz.results32, go_sem]) rfl ⟨rfl, p2, l, by rw [HS1.out, rS_none]; exact HV.out, fun hn => ?_⟩
    rw [HS1.out, rS_none] at hn
    exact absurd rfl hn
   | some r =>
    go_wp2_with (first
     | (go_at_call 77; refine (octGoodV rb (some r) _ HV.out.rs).mono ?_; rintro e wq ⟨rfl, rfl⟩)
     | fail)
    refine (octNbT rb (some r) _ HV.out.rs).mono ?_
    rintro e w2 ⟨v2, rfl, hown, hrs, ht⟩
    have hv2 := HV.out.read ht hrs
    have cv := conv_own hown
    obtain ⟨sw, hsw⟩ : ∃ z : ByteArray, z = strU (nb (some r)).1 := ⟨_, rfl⟩
    rw [← hsw] at cv
    have HSW := Lib.hid hsw
    obtain ⟨t0, ht0⟩ : ∃ z : Rs, z = (nb (some r)).2 := ⟨_, rfl⟩
    rw [← ht0] at hv2
    have HT0 := Lib.hid ht0
    have X : Whl (w2.alloc (.cells #[.int .i64 0, .int .i64 0, .int .i64 0, .int .i64 0] 36)) w2.heap.size 36 #[.int .i64 0, .int .i64 0, .int .i64 0, .int .i64 0] := Whl.new rfl
    have hv3 := hv2.alloc (.cells #[.int .i64 0, .int .i64 0, .int .i64 0, .int .i64 0] 36)
    have hrl := hv2.rs.low
    have hpl := hv2.vt.pu.lows
    obtain ⟨hb, hhb⟩ : ∃ z, z = w2.heap.size := ⟨_, rfl⟩
    have hnm : mb p2 ≠ some hb := fun e => by have := hpl _ e; omega
    rw [← hhb] at X hrl
    have HV3 := Lib.hid hv3
    clear hsw ht0 hown hrs ht hv2 hv3 hpl
    go_wp2_with fail
    rw [← hhb]
    clear cv hhb
    generalize (w2.alloc (.cells #[.int .i64 0, .int .i64 0, .int .i64 0, .int .i64 0] 36)) = x0 at *
    refine wp_loop_rounds 5 ?_
    rw [rounds_succ]
    go_wp2_with fail
    refine (octNxT rb t0 _ HV3.out.rs).mono ?_
    rintro e y0 ⟨rfl, hrs, ht⟩
    have hw0 := HV3.out.read ht hrs
    replace X := X.tch ht (by omega)
    obtain ⟨n0, hn0⟩ : ∃ z : Int, z = ((nx t0).1 : Int) := ⟨_, rfl⟩
    rw [← hn0]
    have HN0 := Lib.hid hn0
    have ck := X.cell 0
    have fk := X.free 0
    simp only [List.getElem?_toArray, List.getElem?_cons_succ, List.getElem?_cons_zero] at ck
    have XN : Whl (y0.setCell ⟨hb, 0, none⟩ (.int .i64 n0)) hb 36 #[.int .i64 n0, .int .i64 0, .int .i64 0, .int .i64 0] := Whl.set X 0 (.int .i64 n0)
    have HV4 := Lib.hid (hw0.far (i := 0) X (noU8_it _ _ _ _) (by omega) hnm (.int .i64 n0))
    clear hrs ht hn0 hw0 HV3 X
    go_wp2_with fail
    generalize (y0.setCell ⟨hb, 0, none⟩ (.int .i64 n0)) = x1 at *
    have X := XN
    clear ck fk XN
    rw [rounds_succ]
    go_wp2_with fail
    refine (octNxT rb (nx t0).2 _ HV4.out.rs).mono ?_
    rintro e y1 ⟨rfl, hrs, ht⟩
    have hw1 := HV4.out.read ht hrs
    replace X := X.tch ht (by omega)
    obtain ⟨n1, hn1⟩ : ∃ z : Int, z = ((nx (nx t0).2).1 : Int) := ⟨_, rfl⟩
    rw [← hn1]
    have HN1 := Lib.hid hn1
    have ck := X.cell 1
    have fk := X.free 1
    simp only [List.getElem?_toArray, List.getElem?_cons_succ, List.getElem?_cons_zero] at ck
    have XN : Whl (y1.setCell ⟨hb, 1, none⟩ (.int .i64 n1)) hb 36 #[.int .i64 n0, .int .i64 n1, .int .i64 0, .int .i64 0] := Whl.set X 1 (.int .i64 n1)
    have HV5 := Lib.hid (hw1.far (i := 1) X (noU8_it _ _ _ _) (by omega) hnm (.int .i64 n1))
    clear hrs ht hn1 hw1 HV4 X
    go_wp2_with fail
    generalize (y1.setCell ⟨hb, 1, none⟩ (.int .i64 n1)) = x2 at *
    have X := XN
    clear ck fk XN
    rw [rounds_succ]
    go_wp2_with fail
    refine (octNxT rb (nx (nx t0).2).2 _ HV5.out.rs).mono ?_
    rintro e y2 ⟨rfl, hrs, ht⟩
    have hw2 := HV5.out.read ht hrs
    replace X := X.tch ht (by omega)
    obtain ⟨n2, hn2⟩ : ∃ z : Int, z = ((nx (nx (nx t0).2).2).1 : Int) := ⟨_, rfl⟩
    rw [← hn2]
    have HN2 := Lib.hid hn2
    have ck := X.cell 2
    have fk := X.free 2
    simp only [List.getElem?_toArray, List.getElem?_cons_succ, List.getElem?_cons_zero] at ck
    have XN : Whl (y2.setCell ⟨hb, 2, none⟩ (.int .i64 n2)) hb 36 #[.int .i64 n0, .int .i64 n1, .int .i64 n2, .int .i64 0] := Whl.set X 2 (.int .i64 n2)
    have HV6 := Lib.hid (hw2.far (i := 2) X (noU8_it _ _ _ _) (by omega) hnm (.int .i64 n2))
    clear hrs ht hn2 hw2 HV5 X
    go_wp2_with fail
    generalize (y2.setCell ⟨hb, 2, none⟩ (.int .i64 n2)) = x3 at *
    have X := XN
    clear ck fk XN
    rw [rounds_succ]
    go_wp2_with fail
    refine (octNxT rb (nx (nx (nx t0).2).2).2 _ HV6.out.rs).mono ?_
    rintro e y3 ⟨rfl, hrs, ht⟩
    have hw3 := HV6.out.read ht hrs
    replace X := X.tch ht (by omega)
    obtain ⟨n3, hn3⟩ : ∃ z : Int, z = ((nx (nx (nx (nx t0).2).2).2).1 : Int) := ⟨_, rfl⟩
    rw [← hn3]
    have HN3 := Lib.hid hn3
    have ck := X.cell 3
    have fk := X.free 3
    simp only [List.getElem?_toArray, List.getElem?_cons_succ, List.getElem?_cons_zero] at ck
    have XN : Whl (y3.setCell ⟨hb, 3, none⟩ (.int .i64 n3)) hb 36 #[.int .i64 n0, .int .i64 n1, .int .i64 n2, .int .i64 n3] := Whl.set X 3 (.int .i64 n3)
    have HV7 := Lib.hid (hw3.far (i := 3) X (noU8_it _ _ _ _) (by omega) hnm (.int .i64 n3))
    clear hrs ht hn3 hw3 HV6 X
    go_wp2_with fail
    generalize (y3.setCell ⟨hb, 3, none⟩ (.int .i64 n3)) = x4 at *
    have X := XN
    clear ck fk XN
    rw [rounds_succ]
    have a0 := X.cell 0
    have a1 := X.cell 1
    have a2 := X.cell 2
    have a3 := X.cell 3
    simp only [List.getElem?_toArray, List.getElem?_cons_succ, List.getElem?_cons_zero] at a0 a1 a2 a3
    have X2 := X.low
    clear X
    have hit : itR t0 = (n0, n1, n2, n3) := by unfold itR; rw [HN0.out, HN1.out, HN2.out, HN3.out]
    have hie : itE t0 = (nx (nx (nx (nx t0).2).2).2).2 := rfl
    have HIT := Lib.hid hit
    have HIE := Lib.hid hie
    rw [← hie] at HV7
    obtain ⟨t4, ht4⟩ : ∃ z, z = itE t0 := ⟨_, rfl⟩
    rw [← ht4] at HV7
    have HT4 := Lib.hid ht4
    clear ht4 hit hie HN0 HN1 HN2 HN3
    have hno : ¬ rowOk sa.data.toList sw (n0, n1, n2, n3) → (rS (k + 1) sa.data.toList (some r)).2 = none := by
     intro h
     unfold rS
     rw [if_neg (fun hc => h (by have := hc.2.2; rw [← HSW.out, ← HT0.out, HIT.out] at this; exact this))]
    have HNO := Lib.hid hno
    clear hno
    by_cases hbl : BL sa.data.toList sw.data.toList
    case neg =>
     have hno := HNO.out (fun h => hbl h.1)
     have f3 : Op.bytesLess sa.toList sw.toList = false := by rw [Lib.toList_data, Lib.toList_data]; unfold BL at hbl; simpa using hbl
     clear HNO hbl
     have f1 : (Op.bytesLess sw.toList sa.toList || sw.toList == sa.toList) = true := by
      cases h : Op.bytesLess sw.toList sa.toList with
      | true => rfl
      | false => simpa using less_eq h f3
     rcases (show Op.bytesLess sw.toList sa.toList = true ∨ (Op.bytesLess sw.toList sa.toList = false ∧ (sw.toList == sa.toList) = true) by
      cases h : Op.bytesLess sw.toList sa.toList with
      | true => exact .inl rfl
      | false => exact .inr ⟨rfl, by rw [h] at f1; simpa using f1⟩) with f2 | ⟨f2, f4⟩
     ·
      clear f1 f3
      go_wp2_with (first
       | (go_at_call 79; refine (octBadV rb t4 _ HV7.out.rs).mono ?_; rintro e w5 ⟨rfl, hrs, ht⟩; have HV8 := Lib.hid (HV7.out.read ht hrs); clear hrs ht)
       | fail)
      refine bodyPost_ret (v := .tuple #[]) (by simp [results, Tryz.results32, go_sem]) rfl ⟨rfl, p2, l, by rw [HS1.out, hno]; exact HV8.out, fun hn => ?_⟩
      rw [HS1.out, hno] at hn
      exact absurd rfl hn
     ·
      clear f1 f3
      go_wp2_with (first
       | (go_at_call 79; refine (octBadV rb t4 _ HV7.out.rs).mono ?_; rintro e w5 ⟨rfl, hrs, ht⟩; have HV8 := Lib.hid (HV7.out.read ht hrs); clear hrs ht)
       | fail)
      refine bodyPost_ret (v := .tuple #[]) (by simp [results, Tryz.results32, go_sem]) rfl ⟨rfl, p2, l, by rw [HS1.out, hno]; exact HV8.out, fun hn => ?_⟩
      rw [HS1.out, hno] at hn
      exact absurd rfl hn
    have f0 : Op.bytesLess sa.toList sw.toList = true := by rw [Lib.toList_data, Lib.toList_data]; exact hbl
    have f1 : Op.bytesLess sw.toList sa.toList = false := less_asymm f0
    have f2 : (sw.toList == sa.toList) = false := by
     cases h : (sw.toList == sa.toList) with
     | false => rfl
     | true => rw [beq_iff_eq] at h; rw [h, less_irrefl] at f0; cases f0
    clear f0
    by_cases hz : (n0, n1, n2, n3) = z4
    ·
     have hno := HNO.out (fun h => h.2.1 hz)
     simp only [z4, Prod.mk.injEq] at hz
     obtain ⟨rfl, rfl, rfl, rfl⟩ := hz
     clear HNO hbl
     go_wp2_with (first
      | (go_at_call 79; refine (octBadV rb t4 _ HV7.out.rs).mono ?_; rintro e w5 ⟨rfl, hrs, ht⟩; have HV8 := Lib.hid (HV7.out.read ht hrs); clear hrs ht)
      | fail)
     refine bodyPost_ret (v := .tuple #[]) (by simp [results, Tryz.results32, go_sem]) rfl ⟨rfl, p2, l, by rw [HS1.out, hno]; exact HV8.out, fun hn => ?_⟩
     rw [HS1.out, hno] at hn
     exact absurd rfl hn
    have f3 : (n0 == 0 && n1 == 0 && n2 == 0 && n3 == 0) = false := by
     cases h : (n0 == 0 && n1 == 0 && n2 == 0 && n3 == 0) with
     | false => rfl
     | true =>
      simp only [Bool.and_eq_true, beq_iff_eq] at h
      exact absurd (by rw [h.1.1.1, h.1.1.2, h.1.2, h.2]; rfl) hz
    cases hm : mayB sw (n0, n1, n2, n3) with
    | false =>
     have hno := HNO.out (fun h => by have := h.2.2; rw [hm] at this; cases this)
     have HM : Hid ((decide (1 ≤ sw.size) && (decide (sw.size ≤ 16) && isP n0 n1 n2 n3)) = false) := Lib.hid hm
     clear HNO hbl hm hz
     go_wp2_with (first
      | (go_at_call 79; refine (octBadV rb t4 _ HV7.out.rs).mono ?_; rintro e w5 ⟨rfl, hrs, ht⟩; have HV8 := Lib.hid (HV7.out.read ht hrs); clear hrs ht)
      | (go_at_call 57; refine (vtMay vb sw (n0, n1, n2, n3) _).mono ?_; rintro e w6 ⟨rfl, hb6⟩; simp only [HM.out]; replace HV7 := Lib.hid (HV7.out.below hb6); clear hb6)
      | fail)
     refine bodyPost_ret (v := .tuple #[]) (by simp [results, Tryz.results32, go_sem]) rfl ⟨rfl, p2, l, by rw [HS1.out, hno]; exact HV8.out, fun hn => ?_⟩
     rw [HS1.out, hno] at hn
     exact absurd rfl hn
    | true =>
     have HM : Hid ((decide (1 ≤ sw.size) && (decide (sw.size ≤ 16) && isP n0 n1 n2 n3)) = true) := Lib.hid hm
     have HROK : Hid (rowOk sa.data.toList sw (n0, n1, n2, n3)) := Lib.hid ⟨hbl, hz, hm⟩
     have HKY := Lib.hid (mayB_key hm)
     clear HNO hbl hm hz
     go_wp2_with (first
      | (go_at_call 57; refine (vtMay vb sw (n0, n1, n2, n3) _).mono ?_; rintro e w6 ⟨rfl, hb6⟩; simp only [HM.out]; replace HV7 := Lib.hid (HV7.out.below hb6); have a0 := bkeep hb6 a0 X2; have a1 := bkeep hb6 a1 X2; have a2 := bkeep hb6 a2 X2; have a3 := bkeep hb6 a3 X2; clear hb6)
      | (go_at_call 59; refine (vtSet vb p2 _ _ l 0 0 sw HKY.out.1 (n0, n1, n2, n3) HKY.out.2 _ HV7.out.vt).mono ?_; rintro e w7 ⟨rfl, hq⟩; obtain ⟨p3, hv9⟩ := HV7.out.set hq; have HV9 := Lib.hid hv9; clear hq hv9)
      | fail)
     obtain ⟨hrb, hrz, hrm⟩ := HROK.out
     have hcur : t4 ≠ none → rS (k + 1) sa.data.toList (some r) = ((sw.data.toList, (n0, n1, n2, n3)) :: (rS k sw.data.toList t4).1, (rS k sw.data.toList t4).2) := by
      intro hn
      rw [rS, ← HSW.out, ← HT0.out, HIT.out, ← HT4.out]
      rw [if_pos ⟨by simp, hn, HROK.out⟩]
     refine ⟨⟨k, sw, t4, p3, setP l sw.data.toList (n0, n1, n2, n3), by go_num, rfl, by omega, HV9.out, ?_, fun hn => ?_⟩, by simp [intOf]⟩
     ·
      rw [HS1.out]
      by_cases hn : t4 = none
      · rw [hn, rS_none, rS, ← HSW.out, ← HT0.out, ← HT4.out, if_neg (fun hc => hc.2.1 hn)]
      · rw [hcur hn]
     ·
      obtain ⟨h1, h2⟩ := HS2.out (by simp)
      rw [h1, hcur hn]
      have hnew : sw.data.toList ∉ l.map (·.1) := by
       intro hm
       obtain ⟨x, hx, e⟩ := List.mem_map.1 hm
       exact h2 x hx (by rw [e]; exact hrb)
      rw [setP_new hrz hnew]
      refine ⟨by simp, fun x hx hb => ?_⟩
      rcases List.mem_append.1 hx with hx | hx
      · exact h2 x hx (BL.trans hrb hb)
      ·
       simp only [List.mem_singleton] at hx
       subst hx
       exact hb.ne rfl
end Go.Proofs.YtdlbiobjnohfbaaGreat
