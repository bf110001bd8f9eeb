/- Requests: what is looked at, what may be, its bytes, which are its own. -/
import Derived.Test.YtblknjclkecglaaOpE
import Derived.Test.YtblknjclkecglaaOpQ
import Derived.Test.YtblknjclkecglaaOctetS
import Derived.Test.YtblknjclkecglaaMay
import Derived.Laws.BytesArg
namespace Go.Proofs.Ytblknjclkecglaa
open Go.RowKit
set_option linter.unusedVariables false
set_option linter.unusedSimpArgs false

def hvB (ak aw tk tw : ByteArray) : Bool := decide (2000 < ak.size) || (decide (2000 < aw.size) || (decide (2000 < tk.size) || decide (2000 < tw.size)))
theorem hvB_no {ak aw tk tw : ByteArray} (h : hvB ak aw tk tw = false) : ak.size ≤ 2000 ∧ aw.size ≤ 2000 ∧ tk.size ≤ 2000 ∧ tw.size ≤ 2000 := by
  simp only [hvB, Bool.or_eq_false_iff, decide_eq_false_iff_not] at h
  omega
set_option maxHeartbeats 1000000 in
theorem lawHeavy (k cl sq : Int) (ak aw tk tw : ByteArray) (it ct pr : Int) (bu : Bool) (id : Int) (w : World) : Calls Try.prog 7 #[.agg #[.int .i64 k, .int .i64 cl, .int .i64 sq, .string ak, .string aw, .string tk, .string tw, .int .i64 it, .int .i64 ct, .int .i64 pr, .bool bu, .int .i64 id]] w fun e w' => e = .returned (.bool (hvB ak aw tk tw)) ∧ Below w.heap.size w w' := by
  by_cases h0 : (2000 : Int) < ak.size
  · go_enter Try.func7, Try.ntmps7
    go_wp2_with fail
    go_ret
    exact ⟨ret_bool (by unfold hvB; rw [decide_eq_true (show 2000 < ak.size by omega)]; rfl), by ((repeat (first | (with_reducible exact Below.refl _ _) | (with_reducible assumption) | ((with_reducible refine b_set ?_ ?_); · (first | omega | (simp; done) | (simp; omega))) | ((with_reducible refine b_alloc ?_ ?_); · (first | omega | (simp; done) | (simp; omega))) | (with_reducible refine Below.drew ?_) | (with_reducible refine b_drewN ?_) | ((with_reducible refine b_call (by assumption) ?_ ?_); · (first | omega | (simp; done) | (simp; omega))))); done)⟩
  have n0 : decide (2000 < ak.size) = false := decide_eq_false (by omega)
  by_cases h1 : (2000 : Int) < aw.size
  · go_enter Try.func7, Try.ntmps7
    go_wp2_with fail
    go_ret
    exact ⟨ret_bool (by unfold hvB; rw [n0, decide_eq_true (show 2000 < aw.size by omega)]; rfl), by ((repeat (first | (with_reducible exact Below.refl _ _) | (with_reducible assumption) | ((with_reducible refine b_set ?_ ?_); · (first | omega | (simp; done) | (simp; omega))) | ((with_reducible refine b_alloc ?_ ?_); · (first | omega | (simp; done) | (simp; omega))) | (with_reducible refine Below.drew ?_) | (with_reducible refine b_drewN ?_) | ((with_reducible refine b_call (by assumption) ?_ ?_); · (first | omega | (simp; done) | (simp; omega))))); done)⟩
  have n1 : decide (2000 < aw.size) = false := decide_eq_false (by omega)
  by_cases h2 : (2000 : Int) < tk.size
  · go_enter Try.func7, Try.ntmps7
    go_wp2_with fail
    go_ret
    exact ⟨ret_bool (by unfold hvB; rw [n0, n1, decide_eq_true (show 2000 < tk.size by omega)]; rfl), by ((repeat (first | (with_reducible exact Below.refl _ _) | (with_reducible assumption) | ((with_reducible refine b_set ?_ ?_); · (first | omega | (simp; done) | (simp; omega))) | ((with_reducible refine b_alloc ?_ ?_); · (first | omega | (simp; done) | (simp; omega))) | (with_reducible refine Below.drew ?_) | (with_reducible refine b_drewN ?_) | ((with_reducible refine b_call (by assumption) ?_ ?_); · (first | omega | (simp; done) | (simp; omega))))); done)⟩
  have n2 : decide (2000 < tk.size) = false := decide_eq_false (by omega)
  by_cases h3 : (2000 : Int) < tw.size
  · go_enter Try.func7, Try.ntmps7
    go_wp2_with fail
    go_ret
    exact ⟨ret_bool (by unfold hvB; rw [n0, n1, n2, decide_eq_true (show 2000 < tw.size by omega)]; rfl), by ((repeat (first | (with_reducible exact Below.refl _ _) | (with_reducible assumption) | ((with_reducible refine b_set ?_ ?_); · (first | omega | (simp; done) | (simp; omega))) | ((with_reducible refine b_alloc ?_ ?_); · (first | omega | (simp; done) | (simp; omega))) | (with_reducible refine Below.drew ?_) | (with_reducible refine b_drewN ?_) | ((with_reducible refine b_call (by assumption) ?_ ?_); · (first | omega | (simp; done) | (simp; omega))))); done)⟩
  have n3 : decide (2000 < tw.size) = false := decide_eq_false (by omega)
  go_enter Try.func7, Try.ntmps7
  go_wp2_with fail
  go_ret
  exact ⟨ret_bool (by unfold hvB; rw [n0, n1, n2, n3]; rfl), by ((repeat (first | (with_reducible exact Below.refl _ _) | (with_reducible assumption) | ((with_reducible refine b_set ?_ ?_); · (first | omega | (simp; done) | (simp; omega))) | ((with_reducible refine b_alloc ?_ ?_); · (first | omega | (simp; done) | (simp; omega))) | (with_reducible refine Below.drew ?_) | (with_reducible refine b_drewN ?_) | ((with_reducible refine b_call (by assumption) ?_ ?_); · (first | omega | (simp; done) | (simp; omega))))); done)⟩

/-- a request that may be -/
def mB (k cl sq : Int) (ak aw tk tw : ByteArray) (it ct pr : Int) (bu : Bool) (id : Int) : Bool := (match bu with | true => mayFmT | false => mayFmF).val (symF (maySym k cl sq ak aw tk tw it ct pr id))
/-- numbers and lengths that fit -/
structure OpWf (k cl sq : Int) (ak aw tk tw : ByteArray) (it ct pr : Int) (bu : Bool) (id : Int) : Prop where
  k : (Lit.int .i64 k).wf = true
  cl : (Lit.int .i64 cl).wf = true
  sq : (Lit.int .i64 sq).wf = true
  it : (Lit.int .i64 it).wf = true
  ct : (Lit.int .i64 ct).wf = true
  pr : (Lit.int .i64 pr).wf = true
  id : (Lit.int .i64 id).wf = true
  ak : ak.size ≤ 10000
  aw : aw.size ≤ 10000
  tk : tk.size ≤ 10000
  tw : tw.size ≤ 10000
theorem codeMay (k cl sq : Int) (ak aw tk tw : ByteArray) (it ct pr : Int) (bu : Bool) (id : Int) (h : OpWf k cl sq ak aw tk tw it ct pr bu id) (w : World) : Calls Try.prog 10 #[.agg #[.int .i64 k, .int .i64 cl, .int .i64 sq, .string ak, .string aw, .string tk, .string tw, .int .i64 it, .int .i64 ct, .int .i64 pr, .bool bu, .int .i64 id]] w fun e w' => e = .returned (.bool (mB k cl sq ak aw tk tw it ct pr bu id)) ∧ Below w.heap.size w w' := by
  cases bu
  · exact mayOF k cl sq ak aw tk tw it ct pr id h.k h.cl h.sq h.it h.ct h.pr h.id h.ak h.aw h.tk h.tw w
  · exact mayOT k cl sq ak aw tk tw it ct pr id h.k h.cl h.sq h.it h.ct h.pr h.id h.ak h.aw h.tk h.tw w
theorem refMay (k cl sq : Int) (ak aw tk tw : ByteArray) (it ct pr : Int) (bu : Bool) (id : Int) (h : OpWf k cl sq ak aw tk tw it ct pr bu id) (w : World) : Calls Try.prog 19 #[.agg #[.int .i64 k, .int .i64 cl, .int .i64 sq, .string ak, .string aw, .string tk, .string tw, .int .i64 it, .int .i64 ct, .int .i64 pr, .bool bu, .int .i64 id]] w fun e w' => e = .returned (.bool (mB k cl sq ak aw tk tw it ct pr bu id)) ∧ Below w.heap.size w w' := by
  cases bu
  · exact mayRF k cl sq ak aw tk tw it ct pr id h.k h.cl h.sq h.it h.ct h.pr h.id h.ak h.aw h.tk h.tw w
  · exact mayRT k cl sq ak aw tk tw it ct pr id h.k h.cl h.sq h.it h.ct h.pr h.id h.ak h.aw h.tk h.tw w
set_option maxHeartbeats 1000000 in
theorem mB_bounds {k cl sq : Int} {ak aw tk tw : ByteArray} {it ct pr : Int} {bu : Bool} {id : Int} (h : mB k cl sq ak aw tk tw it ct pr bu id = true) : (0 ≤ k ∧ k ≤ 7) ∧ (0 ≤ cl ∧ cl ≤ 1048576) ∧ (0 ≤ sq ∧ sq ≤ 1099511627776) ∧ (0 ≤ it ∧ it ≤ 3) ∧ (0 ≤ ct ∧ ct ≤ 1048576) ∧ (0 ≤ pr ∧ pr ≤ 1024) ∧ (0 ≤ id ∧ id ≤ 1099511627776) ∧ ak.size ≤ 16 ∧ aw.size ≤ 16 ∧ tk.size ≤ 16 ∧ tw.size ≤ 16 := by
  cases bu
  · simp only [mB, mayFmF, Fm.val, symF, maySym, numOf, Bool.and_eq_true, Bool.or_eq_true, Bool.not_eq_true', decide_eq_true_eq, decide_eq_false_iff_not] at h
    generalize ak.size = s3 at h ⊢
    generalize aw.size = s4 at h ⊢
    generalize tk.size = s5 at h ⊢
    generalize tw.size = s6 at h ⊢
    simp at h
    omega
  · simp only [mB, mayFmT, Fm.val, symF, maySym, numOf, Bool.and_eq_true, Bool.or_eq_true, Bool.not_eq_true', decide_eq_true_eq, decide_eq_false_iff_not] at h
    generalize ak.size = s3 at h ⊢
    generalize aw.size = s4 at h ⊢
    generalize tk.size = s5 at h ⊢
    generalize tw.size = s6 at h ⊢
    simp at h
    omega
theorem codeEncode (k cl sq : Int) (ak aw tk tw : ByteArray) (it ct pr : Int) (bu : Bool) (id : Int) (h : OpWf k cl sq ak aw tk tw it ct pr bu id) (hm : mB k cl sq ak aw tk tw it ct pr bu id = true) (w : World) : Calls Try.prog 8 #[.agg #[.int .i64 k, .int .i64 cl, .int .i64 sq, .string ak, .string aw, .string tk, .string tw, .int .i64 it, .int .i64 ct, .int .i64 pr, .bool bu, .int .i64 id]] w fun e w' => ∃ v', e = .returned (.tuple #[v', .int .i64 0]) ∧ w'.ownsRow w.heap.size 5 1 v' (opBs k cl sq ak aw tk tw it ct pr bu id).length (flatU (opBs k cl sq ak aw tk tw it ct pr bu id)) ∧ Below w.heap.size w w' := by
  have hmay := fun w => codeMay k cl sq ak aw tk tw it ct pr bu id h w
  rw [hm] at hmay
  cases bu
  · exact opEncodeF k cl sq ak aw tk tw it ct pr id w h.ak h.aw h.tk h.tw hmay
  · exact opEncodeT k cl sq ak aw tk tw it ct pr id w h.ak h.aw h.tk h.tw hmay
set_option maxHeartbeats 1000000 in
theorem codeEncodeNo (k cl sq : Int) (ak aw tk tw : ByteArray) (it ct pr : Int) (bu : Bool) (id : Int) (h : OpWf k cl sq ak aw tk tw it ct pr bu id) (hm : mB k cl sq ak aw tk tw it ct pr bu id = false) (w : World) : Calls Try.prog 8 #[.agg #[.int .i64 k, .int .i64 cl, .int .i64 sq, .string ak, .string aw, .string tk, .string tw, .int .i64 it, .int .i64 ct, .int .i64 pr, .bool bu, .int .i64 id]] w fun e w' => e = .returned (.tuple #[.slice none 0 0, .int .i64 1]) ∧ Below w.heap.size w w' := by
  have hmay := fun w => codeMay k cl sq ak aw tk tw it ct pr bu id h w
  rw [hm] at hmay
  clear h hm
  go_enter Try.func8, Try.ntmps8
  go_wp2_with fail
  refine (hmay _).mono ?_
  rintro z w1 ⟨rfl, hb1⟩
  have hs1 := hb1.size; (try simp at hs1)
  clear hmay
  go_wp2_with fail
  refine bodyPost_ret (v := .tuple #[.slice none 0 0, .int .i64 1]) (by simp [results, Try.results8, go_sem, ↓IntWalk.iteOmega, *]) rfl ⟨rfl, ?_⟩
  ((repeat (first | (with_reducible exact Below.refl _ _) | (with_reducible assumption) | ((with_reducible refine b_set ?_ ?_); · (first | omega | (simp; done) | (simp; omega))) | ((with_reducible refine b_alloc ?_ ?_); · (first | omega | (simp; done) | (simp; omega))) | (with_reducible refine Below.drew ?_) | (with_reducible refine b_drewN ?_) | ((with_reducible refine b_call (by assumption) ?_ ?_); · (first | omega | (simp; done) | (simp; omega))))); done)

/-- numbers and rows one behind the other are their own -/
theorem enc_cancel {m n : Nat} {r s : List Nat} (hm : m ≤ 4611686018427387904) (hn : n ≤ 4611686018427387904) (h : enc m ++ r = enc n ++ s) : m = n ∧ r = s := by
  have h1 := nx_enc hm r
  rw [h, nx_enc hn s] at h1
  simp only [Prod.mk.injEq, Option.some.injEq] at h1
  exact ⟨h1.1.symm, h1.2.symm⟩
theorem clamp_in {n : Int} (h0 : 0 ≤ n) (h1 : n ≤ 1099511627776) : (clamp n : Int) = n := by unfold clamp; omega
theorem num_cancel {m n : Int} {r s : List Nat} (hm : 0 ≤ m ∧ m ≤ 1099511627776) (hn : 0 ≤ n ∧ n ≤ 1099511627776) (h : enc (clamp m) ++ r = enc (clamp n) ++ s) : m = n ∧ r = s := by
  obtain ⟨h1, h2⟩ := enc_cancel (clamp_le _) (clamp_le _) h
  exact ⟨by rw [← clamp_in hm.1 hm.2, ← clamp_in hn.1 hn.2, h1], h2⟩
theorem bs_inj {a b : ByteArray} (h : bs a = bs b) : a = b := by
  have h1 : a.data.toList = b.data.toList := by
    unfold bs at h
    exact List.map_inj_right (fun x y e => UInt8.toNat_inj.1 e) |>.1 h
  cases a; cases b
  simp only [ByteArray.mk.injEq]
  exact Array.ext' h1
theorem row_cancel {a b : ByteArray} {r s : List Nat} (ha : a.size ≤ 16) (hb : b.size ≤ 16) (h : enc (bs a).length ++ (bs a ++ r) = enc (bs b).length ++ (bs b ++ s)) : a = b ∧ r = s := by
  obtain ⟨h1, h2⟩ := enc_cancel (by rw [bs_length]; omega) (by rw [bs_length]; omega) h
  obtain ⟨h3, h4⟩ := List.append_inj h2 h1
  exact ⟨bs_inj h3, h4⟩
theorem opBs_flat (k cl sq : Int) (ak aw tk tw : ByteArray) (it ct pr : Int) (bu : Bool) (id : Int) : opBs k cl sq ak aw tk tw it ct pr bu id = enc (clamp k) ++ (enc (clamp cl) ++ (enc (clamp sq) ++ (enc (bs ak).length ++ (bs ak ++ (enc (bs aw).length ++ (bs aw ++ (enc (bs tk).length ++ (bs tk ++ (enc (bs tw).length ++ (bs tw ++ (enc (clamp it) ++ (enc (clamp ct) ++ (enc (clamp pr) ++ (enc (clamp (one01 bu)) ++ (enc (clamp id) ++ []))))))))))))))) := by
  simp [opBs, encs, encb]
theorem opBs_inj {k cl sq : Int} {ak aw tk tw : ByteArray} {it ct pr : Int} {bu : Bool} {id : Int} {k' cl' sq' : Int} {ak' aw' tk' tw' : ByteArray} {it' ct' pr' : Int} {bu' : Bool} {id' : Int} (hm : mB k cl sq ak aw tk tw it ct pr bu id = true) (hm' : mB k' cl' sq' ak' aw' tk' tw' it' ct' pr' bu' id' = true) (h : opBs k cl sq ak aw tk tw it ct pr bu id = opBs k' cl' sq' ak' aw' tk' tw' it' ct' pr' bu' id') :
    k = k' ∧ cl = cl' ∧ sq = sq' ∧ ak = ak' ∧ aw = aw' ∧ tk = tk' ∧ tw = tw' ∧ it = it' ∧ ct = ct' ∧ pr = pr' ∧ bu = bu' ∧ id = id' := by
  obtain ⟨p1, p2, p3, p4, p5, p6, p7, p8, p9, p10, p11⟩ := mB_bounds hm
  obtain ⟨q1, q2, q3, q4, q5, q6, q7, q8, q9, q10, q11⟩ := mB_bounds hm'
  rw [opBs_flat, opBs_flat] at h
  obtain ⟨e1, h⟩ := num_cancel (by omega) (by omega) h
  obtain ⟨e2, h⟩ := num_cancel (by omega) (by omega) h
  obtain ⟨e3, h⟩ := num_cancel (by omega) (by omega) h
  obtain ⟨e4, h⟩ := row_cancel p8 q8 h
  obtain ⟨e5, h⟩ := row_cancel p9 q9 h
  obtain ⟨e6, h⟩ := row_cancel p10 q10 h
  obtain ⟨e7, h⟩ := row_cancel p11 q11 h
  obtain ⟨e8, h⟩ := num_cancel (by omega) (by omega) h
  obtain ⟨e9, h⟩ := num_cancel (by omega) (by omega) h
  obtain ⟨e10, h⟩ := num_cancel (by omega) (by omega) h
  obtain ⟨e11, h⟩ := num_cancel (by cases bu <;> decide) (by cases bu' <;> decide) h
  obtain ⟨e12, h⟩ := num_cancel (by omega) (by omega) h
  exact ⟨e1, e2, e3, e4, e5, e6, e7, e8, e9, e10, by cases bu <;> cases bu' <;> first | rfl | (exact absurd e11 (by decide)), e12⟩
end Go.Proofs.Ytblknjclkecglaa
