/- DecodeChange, the code's and the document's, of any bytes. -/
import Derived.Test.YtbohpjinkdffhaaProg
import Derived.WalkKit
import Derived.WalkSpells
import Derived.WalkLawsBesides
import Derived.Deep.QuietTactic
import Derived.BigQuiet
import Derived.RegionTactic
import Derived.BigRegion
import Derived.Outline
import Derived.LoopTactic
import Derived.Lib.Hide
import Derived.Deep.RegionHeld3
import Derived.Laws.AppendOwnNone
import Derived.Deep.AppendLies
import Derived.Deep.Light
import Derived.Lib.VarintBits
import Derived.Deep.Heap
import Derived.IntWalk
import Derived.Maps.AppendAt
import Derived.Laws.Rows
import Derived.Deep.Onto
import Derived.Laws.BytesArg
import GoSem.Op.String
import Derived.Lib.Strings
import Derived.Deep.Cut
import Derived.StillTailTactics
import Derived.Test.YtbohpjinkdffhaaDbu0
import Derived.Test.YtbohpjinkdffhaaDbu1
import Derived.Test.YtbohpjinkdffhaaDbu2
import Derived.Test.YtbohpjinkdffhaaDbu3
import Derived.Test.YtbohpjinkdffhaaDbu4
import Derived.Test.YtbohpjinkdffhaaDbu5
import Derived.Test.YtbohpjinkdffhaaDbu6
import Derived.Test.YtbohpjinkdffhaaDbu7
import Derived.Test.YtbohpjinkdffhaaDbu8
import Derived.Test.YtbohpjinkdffhaaDbu31
namespace Go.Proofs.Ytbohpjinkdffhaa
open Go.RowKit
set_option linter.unusedVariables false
set_option linter.unusedSimpArgs false
theorem noU8_ch (a b c d : Int) (s : ByteArray) : noU8 #[.int .i64 a, .int .i64 b, .int .i64 c, .int .i64 d, .string s] := by
  intro i x h
  match i with
  | 0 => simp at h
  | 1 => simp at h
  | 2 => simp at h
  | 3 => simp at h
  | 4 => simp at h
  | i + 5 => simp at h
set_option maxHeartbeats 8000000 in
set_option maxRecDepth 10000 in
theorem drDecChange (A : Option Addr) (c : Nat) (xs : List Nat) (w : World) (hn : xs.length ≤ 10000) (h256 : ∀ x ∈ xs, x < 256) (hx : Cells w w.heap.size A xs.length c 1 (flatU xs)) :
    Calls Try.prog 25 #[.slice A xs.length c] w fun e w' => e = .returned (chAns (some xs)) ∧ Below w.heap.size w w' := by
  have hw2 : Below w.heap.size w ((w.alloc (.cells #[.int .i64 0, .int .i64 0, .int .i64 0, .int .i64 0, .string ⟨#[]⟩] 47)).alloc (.cells #[.int .i64 0, .int .i64 0, .int .i64 0, .int .i64 0, .string ⟨#[]⟩] 47)) := ((Below.refl _ _).alloc (Nat.le_refl _) _).alloc (by simp) _
  have HX := Lib.hid (cells_keep hx hw2 (by simp; omega : w.heap.size ≤ ((w.alloc (.cells #[.int .i64 0, .int .i64 0, .int .i64 0, .int .i64 0, .string ⟨#[]⟩] 47)).alloc (.cells #[.int .i64 0, .int .i64 0, .int .i64 0, .int .i64 0, .string ⟨#[]⟩] 47)).heap.size))
  have H256 := Lib.hid h256
  clear hx h256
  go_enter Try.func25, Try.ntmps25
  go_wp2_with fail
  refine (octNew A c xs _ (by omega) H256.out HX.out).mono ?_
  rintro e w1 ⟨b, rfl, hbs, hrs, hb⟩
  have hs1 := hb.size
  simp at hbs hs1
  have X : Whl w1 (w.heap.size + 1) 47 #[.int .i64 0, .int .i64 0, .int .i64 0, .int .i64 0, .string ⟨#[]⟩] := Whl.below (Whl.new (by simp)) hb (by (try simp); (try omega))
  have R : Whl w1 w.heap.size 47 #[.int .i64 0, .int .i64 0, .int .i64 0, .int .i64 0, .string ⟨#[]⟩] := Whl.below (Whl.alloc (Whl.new rfl) _) hb (by simp; omega)
  have hbl := hrs.low
  have HS0 : Hid (RS w1 b (some xs)) := Lib.hid hrs
  have B0 : Below w.heap.size w w1 := hw2.trans (hb.mono (by simp; omega))
  clear hw2 hrs hb HX
  go_wp2_with fail
  have PP : Whl (w1.alloc (.cells #[.pointer (some ⟨w.heap.size + 1, 0, none⟩), .pointer (some ⟨w.heap.size + 1, 1, none⟩), .pointer (some ⟨w.heap.size + 1, 2, none⟩), .pointer (some ⟨w.heap.size + 1, 3, none⟩)] 94)) w1.heap.size 94 #[.pointer (some ⟨w.heap.size + 1, 0, none⟩), .pointer (some ⟨w.heap.size + 1, 1, none⟩), .pointer (some ⟨w.heap.size + 1, 2, none⟩), .pointer (some ⟨w.heap.size + 1, 3, none⟩)] := Whl.new rfl
  replace X := X.alloc (.cells #[.pointer (some ⟨w.heap.size + 1, 0, none⟩), .pointer (some ⟨w.heap.size + 1, 1, none⟩), .pointer (some ⟨w.heap.size + 1, 2, none⟩), .pointer (some ⟨w.heap.size + 1, 3, none⟩)] 94)
  replace R := R.alloc (.cells #[.pointer (some ⟨w.heap.size + 1, 0, none⟩), .pointer (some ⟨w.heap.size + 1, 1, none⟩), .pointer (some ⟨w.heap.size + 1, 2, none⟩), .pointer (some ⟨w.heap.size + 1, 3, none⟩)] 94)
  have HSn := Lib.hid (RS.alloc HS0.out (.cells #[.pointer (some ⟨w.heap.size + 1, 0, none⟩), .pointer (some ⟨w.heap.size + 1, 1, none⟩), .pointer (some ⟨w.heap.size + 1, 2, none⟩), .pointer (some ⟨w.heap.size + 1, 3, none⟩)] 94))
  have Bn : Below w.heap.size w (w1.alloc (.cells #[.pointer (some ⟨w.heap.size + 1, 0, none⟩), .pointer (some ⟨w.heap.size + 1, 1, none⟩), .pointer (some ⟨w.heap.size + 1, 2, none⟩), .pointer (some ⟨w.heap.size + 1, 3, none⟩)] 94)) := B0.alloc (by omega) _
  have hz : w1.heap.size < (w1.alloc (.cells #[.pointer (some ⟨w.heap.size + 1, 0, none⟩), .pointer (some ⟨w.heap.size + 1, 1, none⟩), .pointer (some ⟨w.heap.size + 1, 2, none⟩), .pointer (some ⟨w.heap.size + 1, 3, none⟩)] 94)).heap.size := by simp
  clear HS0 B0
  generalize (w1.alloc (.cells #[.pointer (some ⟨w.heap.size + 1, 0, none⟩), .pointer (some ⟨w.heap.size + 1, 1, none⟩), .pointer (some ⟨w.heap.size + 1, 2, none⟩), .pointer (some ⟨w.heap.size + 1, 3, none⟩)] 94)) = U1 at *
  refine (octNums4 b w1.heap.size (w.heap.size + 1) 0 1 2 3 _ _ _ (some xs) U1 HSn.out PP X (noU8_ch 0 0 0 0 ⟨#[]⟩) (by simp) (by simp) (by simp) (by simp) (by omega) (by omega) (by omega)).mono ?_
  rintro e w2 ⟨rfl, hrs, X2, ht⟩
  have hs2 := ht.size
  replace R := R.tou ht (by omega)
  have B1 : Below w.heap.size w w2 := Bn.trans (ht.below (by omega) (by omega))
  obtain ⟨n0, hn0⟩ : ∃ z : Int, z = ((nx (some xs)).1 : Int) := ⟨_, rfl⟩
  rw [← hn0] at X2
  have HN0 := Lib.hid hn0
  clear hn0
  obtain ⟨n1, hn1⟩ : ∃ z : Int, z = ((nx (nx (some xs)).2).1 : Int) := ⟨_, rfl⟩
  rw [← hn1] at X2
  have HN1 := Lib.hid hn1
  clear hn1
  obtain ⟨n2, hn2⟩ : ∃ z : Int, z = ((nx (nx (nx (some xs)).2).2).1 : Int) := ⟨_, rfl⟩
  rw [← hn2] at X2
  have HN2 := Lib.hid hn2
  clear hn2
  obtain ⟨n3, hn3⟩ : ∃ z : Int, z = ((nx (nx (nx (nx (some xs)).2).2).2).1 : Int) := ⟨_, rfl⟩
  rw [← hn3] at X2
  have HN3 := Lib.hid hn3
  clear hn3
  replace X : Whl w2 (w.heap.size + 1) 47 #[.int .i64 n0, .int .i64 n1, .int .i64 n2, .int .i64 n3, .string ⟨#[]⟩] := X2
  have HS1 := Lib.hid hrs
  clear X2 hrs ht PP HSn Bn
  go_wp2_with fail
  refine (octNbT b (nx (nx (nx (nx (some xs)).2).2).2).2 _ HS1.out).mono ?_
  rintro e w3 ⟨y3, rfl, hown, hrs, ht⟩
  have hs3 := ht.size
  replace X := X.tch ht (by omega)
  replace R := R.tch ht (by omega)
  have B2 : Below w.heap.size w w3 := B1.trans (ht.below (by omega) (by omega))
  have cv := conv_own hown
  obtain ⟨t4, ht4⟩ : ∃ z : ByteArray, z = strU (nb (nx (nx (nx (nx (some xs)).2).2).2).2).1 := ⟨_, rfl⟩
  rw [← ht4] at cv
  have HT4 := Lib.hid ht4
  clear ht4 ht hown HS1 B1
  have ck := X.cell 4
  have fk := X.free 4
  simp only [List.getElem?_toArray, List.getElem?_cons_succ, List.getElem?_cons_zero] at ck
  have HS2 : Hid (RS (w3.setCell ⟨w.heap.size + 1, 4, none⟩ (.string t4)) b (chE (some xs))) := Lib.hid (RS.setBlk (i := 4) (v := .string t4) hrs X (noU8_ch _ _ _ _ _) (by omega))
  have XN : Whl (w3.setCell ⟨w.heap.size + 1, 4, none⟩ (.string t4)) (w.heap.size + 1) 47 #[.int .i64 n0, .int .i64 n1, .int .i64 n2, .int .i64 n3, .string t4] := Whl.set X 4 (.string t4)
  have RN : Whl (w3.setCell ⟨w.heap.size + 1, 4, none⟩ (.string t4)) w.heap.size 47 #[.int .i64 0, .int .i64 0, .int .i64 0, .int .i64 0, .string ⟨#[]⟩] := R.far (by simp)
  have B3 : Below w.heap.size w (w3.setCell ⟨w.heap.size + 1, 4, none⟩ (.string t4)) := B2.setCell (by simp) _
  have hz3 : w3.heap.size = (w3.setCell ⟨w.heap.size + 1, 4, none⟩ (.string t4)).heap.size := by simp [World.setCell]
  clear hrs X R B2
  go_wp2_with fail
  generalize (w3.setCell ⟨w.heap.size + 1, 4, none⟩ (.string t4)) = V at *
  have X := XN
  have R := RN
  have XX := Lib.hid XN
  clear ck fk cv XN RN
  have HC : Hid (chD (some xs) = ⟨n0, n1, n2, n3, t4⟩) := Lib.hid (by rw [HN0.out, HN1.out, HN2.out, HN3.out, HT4.out]; rfl)
  have hVs : w.heap.size + 1 < V.heap.size := X.low
  have HBAD : Hid (chB (some xs) = false → chAns (some xs) = .tuple #[.agg #[.int .i64 0, .int .i64 0, .int .i64 0, .int .i64 0, .string ⟨#[]⟩], .int .i64 3]) := Lib.hid (fun h => by unfold chAns; rw [h]; rfl)
  have HGOOD : Hid (chB (some xs) = true → chAns (some xs) = .tuple #[.agg #[.int .i64 n0, .int .i64 n1, .int .i64 n2, .int .i64 n3, .string t4], .int .i64 0]) := Lib.hid (fun h => by unfold chAns; rw [h, HC.out]; rfl)
  refine (octAll _ _ _ HS2.out).mono ?_
  rintro e w5 ⟨rfl, rfl⟩
  cases hall : allOf (chE (some xs))
  · have HVV := Lib.hid (HBAD.out (by unfold chB; rw [hall]; rfl))
    clear X
    have r0 := R.cell 0
    have r1 := R.cell 1
    have r2 := R.cell 2
    have r3 := R.cell 3
    have r4 := R.cell 4
    simp only [List.getElem?_toArray, List.getElem?_cons_succ, List.getElem?_cons_zero] at r0 r1 r2 r3 r4
    have t0 := R.free 0
    have t1 := R.free 1
    have t2 := R.free 2
    have t3 := R.free 3
    have t4 := R.free 4
    have HR := Lib.hid R
    clear R
    go_wp2_with fail
    have R := HR.out
    clear r0 t0 r1 t1 r2 t2 r3 t3 r4 t4
    have RF0 : Whl (V.setCell ⟨w.heap.size, 0, none⟩ (.int .i64 0)) w.heap.size 47 #[.int .i64 0, .int .i64 0, .int .i64 0, .int .i64 0, .string ⟨#[]⟩] := Whl.set R 0 (.int .i64 0)
    have RF1 : Whl ((V.setCell ⟨w.heap.size, 0, none⟩ (.int .i64 0)).setCell ⟨w.heap.size, 1, none⟩ (.int .i64 0)) w.heap.size 47 #[.int .i64 0, .int .i64 0, .int .i64 0, .int .i64 0, .string ⟨#[]⟩] := Whl.set RF0 1 (.int .i64 0)
    have RF2 : Whl (((V.setCell ⟨w.heap.size, 0, none⟩ (.int .i64 0)).setCell ⟨w.heap.size, 1, none⟩ (.int .i64 0)).setCell ⟨w.heap.size, 2, none⟩ (.int .i64 0)) w.heap.size 47 #[.int .i64 0, .int .i64 0, .int .i64 0, .int .i64 0, .string ⟨#[]⟩] := Whl.set RF1 2 (.int .i64 0)
    have RF3 : Whl ((((V.setCell ⟨w.heap.size, 0, none⟩ (.int .i64 0)).setCell ⟨w.heap.size, 1, none⟩ (.int .i64 0)).setCell ⟨w.heap.size, 2, none⟩ (.int .i64 0)).setCell ⟨w.heap.size, 3, none⟩ (.int .i64 0)) w.heap.size 47 #[.int .i64 0, .int .i64 0, .int .i64 0, .int .i64 0, .string ⟨#[]⟩] := Whl.set RF2 3 (.int .i64 0)
    have RF4 : Whl (((((V.setCell ⟨w.heap.size, 0, none⟩ (.int .i64 0)).setCell ⟨w.heap.size, 1, none⟩ (.int .i64 0)).setCell ⟨w.heap.size, 2, none⟩ (.int .i64 0)).setCell ⟨w.heap.size, 3, none⟩ (.int .i64 0)).setCell ⟨w.heap.size, 4, none⟩ (.string ⟨#[]⟩)) w.heap.size 47 #[.int .i64 0, .int .i64 0, .int .i64 0, .int .i64 0, .string ⟨#[]⟩] := Whl.set RF3 4 (.string ⟨#[]⟩)
    have RF := RF4
    clear RF0 RF1 RF2 RF3 RF4
    have BF : Below w.heap.size w (((((V.setCell ⟨w.heap.size, 0, none⟩ (.int .i64 0)).setCell ⟨w.heap.size, 1, none⟩ (.int .i64 0)).setCell ⟨w.heap.size, 2, none⟩ (.int .i64 0)).setCell ⟨w.heap.size, 3, none⟩ (.int .i64 0)).setCell ⟨w.heap.size, 4, none⟩ (.string ⟨#[]⟩)) := ((((B3.setCell (Nat.le_refl _) _).setCell (Nat.le_refl _) _).setCell (Nat.le_refl _) _).setCell (Nat.le_refl _) _).setCell (Nat.le_refl _) _
    generalize (((((V.setCell ⟨w.heap.size, 0, none⟩ (.int .i64 0)).setCell ⟨w.heap.size, 1, none⟩ (.int .i64 0)).setCell ⟨w.heap.size, 2, none⟩ (.int .i64 0)).setCell ⟨w.heap.size, 3, none⟩ (.int .i64 0)).setCell ⟨w.heap.size, 4, none⟩ (.string ⟨#[]⟩)) = Z at *
    have q0 := RF.cell 0
    have q1 := RF.cell 1
    have q2 := RF.cell 2
    have q3 := RF.cell 3
    have q4 := RF.cell 4
    simp only [List.getElem?_toArray, List.getElem?_cons_succ, List.getElem?_cons_zero] at q0 q1 q2 q3 q4
    clear R
    refine bodyPost_ret (v := .tuple #[.agg #[.int .i64 0, .int .i64 0, .int .i64 0, .int .i64 0, .string ⟨#[]⟩], .int .i64 3]) (by simp [results, Try.results25, go_sem, ↓IntWalk.iteOmega, *]) rfl ⟨by rw [HVV.out], BF⟩
  · have HALL := Lib.hid hall
    have d0 := X.cell 0
    have d1 := X.cell 1
    have d2 := X.cell 2
    have d3 := X.cell 3
    have d4 := X.cell 4
    simp only [List.getElem?_toArray, List.getElem?_cons_succ, List.getElem?_cons_zero] at d0 d1 d2 d3 d4
    clear X
    go_wp2_with fail
    clear d0 d1 d2 d3 d4
    refine (drMayChange ⟨n0, n1, n2, n3, t4⟩ _).mono ?_
    rintro e w6 ⟨rfl, hb6⟩
    have hs6 := hb6.size
    have B8 : Below w.heap.size w w6 := B3.trans (hb6.mono (by omega))
    replace R := R.below hb6 (by omega)
    have X := XX.out.below hb6 (by omega)
    cases hp : decide (OkCh ⟨n0, n1, n2, n3, t4⟩)
    · have HVV := Lib.hid (HBAD.out (by unfold chB; rw [HC.out, hp]; simp))
      clear X
      have r0 := R.cell 0
      have r1 := R.cell 1
      have r2 := R.cell 2
      have r3 := R.cell 3
      have r4 := R.cell 4
      simp only [List.getElem?_toArray, List.getElem?_cons_succ, List.getElem?_cons_zero] at r0 r1 r2 r3 r4
      have t0 := R.free 0
      have t1 := R.free 1
      have t2 := R.free 2
      have t3 := R.free 3
      have t4 := R.free 4
      have HR := Lib.hid R
      clear R
      go_wp2_with fail
      have R := HR.out
      clear r0 t0 r1 t1 r2 t2 r3 t3 r4 t4
      have RF0 : Whl (w6.setCell ⟨w.heap.size, 0, none⟩ (.int .i64 0)) w.heap.size 47 #[.int .i64 0, .int .i64 0, .int .i64 0, .int .i64 0, .string ⟨#[]⟩] := Whl.set R 0 (.int .i64 0)
      have RF1 : Whl ((w6.setCell ⟨w.heap.size, 0, none⟩ (.int .i64 0)).setCell ⟨w.heap.size, 1, none⟩ (.int .i64 0)) w.heap.size 47 #[.int .i64 0, .int .i64 0, .int .i64 0, .int .i64 0, .string ⟨#[]⟩] := Whl.set RF0 1 (.int .i64 0)
      have RF2 : Whl (((w6.setCell ⟨w.heap.size, 0, none⟩ (.int .i64 0)).setCell ⟨w.heap.size, 1, none⟩ (.int .i64 0)).setCell ⟨w.heap.size, 2, none⟩ (.int .i64 0)) w.heap.size 47 #[.int .i64 0, .int .i64 0, .int .i64 0, .int .i64 0, .string ⟨#[]⟩] := Whl.set RF1 2 (.int .i64 0)
      have RF3 : Whl ((((w6.setCell ⟨w.heap.size, 0, none⟩ (.int .i64 0)).setCell ⟨w.heap.size, 1, none⟩ (.int .i64 0)).setCell ⟨w.heap.size, 2, none⟩ (.int .i64 0)).setCell ⟨w.heap.size, 3, none⟩ (.int .i64 0)) w.heap.size 47 #[.int .i64 0, .int .i64 0, .int .i64 0, .int .i64 0, .string ⟨#[]⟩] := Whl.set RF2 3 (.int .i64 0)
      have RF4 : Whl (((((w6.setCell ⟨w.heap.size, 0, none⟩ (.int .i64 0)).setCell ⟨w.heap.size, 1, none⟩ (.int .i64 0)).setCell ⟨w.heap.size, 2, none⟩ (.int .i64 0)).setCell ⟨w.heap.size, 3, none⟩ (.int .i64 0)).setCell ⟨w.heap.size, 4, none⟩ (.string ⟨#[]⟩)) w.heap.size 47 #[.int .i64 0, .int .i64 0, .int .i64 0, .int .i64 0, .string ⟨#[]⟩] := Whl.set RF3 4 (.string ⟨#[]⟩)
      have RF := RF4
      clear RF0 RF1 RF2 RF3 RF4
      have BF : Below w.heap.size w (((((w6.setCell ⟨w.heap.size, 0, none⟩ (.int .i64 0)).setCell ⟨w.heap.size, 1, none⟩ (.int .i64 0)).setCell ⟨w.heap.size, 2, none⟩ (.int .i64 0)).setCell ⟨w.heap.size, 3, none⟩ (.int .i64 0)).setCell ⟨w.heap.size, 4, none⟩ (.string ⟨#[]⟩)) := ((((B8.setCell (Nat.le_refl _) _).setCell (Nat.le_refl _) _).setCell (Nat.le_refl _) _).setCell (Nat.le_refl _) _).setCell (Nat.le_refl _) _
      generalize (((((w6.setCell ⟨w.heap.size, 0, none⟩ (.int .i64 0)).setCell ⟨w.heap.size, 1, none⟩ (.int .i64 0)).setCell ⟨w.heap.size, 2, none⟩ (.int .i64 0)).setCell ⟨w.heap.size, 3, none⟩ (.int .i64 0)).setCell ⟨w.heap.size, 4, none⟩ (.string ⟨#[]⟩)) = Z at *
      have q0 := RF.cell 0
      have q1 := RF.cell 1
      have q2 := RF.cell 2
      have q3 := RF.cell 3
      have q4 := RF.cell 4
      simp only [List.getElem?_toArray, List.getElem?_cons_succ, List.getElem?_cons_zero] at q0 q1 q2 q3 q4
      clear R
      refine bodyPost_ret (v := .tuple #[.agg #[.int .i64 0, .int .i64 0, .int .i64 0, .int .i64 0, .string ⟨#[]⟩], .int .i64 3]) (by simp [results, Try.results25, go_sem, ↓IntWalk.iteOmega, *]) rfl ⟨by rw [HVV.out], BF⟩
    · have HVV := Lib.hid (HGOOD.out (by unfold chB; rw [HC.out, hp, HALL.out]; rfl))
      have d0 := X.cell 0
      have d1 := X.cell 1
      have d2 := X.cell 2
      have d3 := X.cell 3
      have d4 := X.cell 4
      simp only [List.getElem?_toArray, List.getElem?_cons_succ, List.getElem?_cons_zero] at d0 d1 d2 d3 d4
      clear X
      have r0 := R.cell 0
      have r1 := R.cell 1
      have r2 := R.cell 2
      have r3 := R.cell 3
      have r4 := R.cell 4
      simp only [List.getElem?_toArray, List.getElem?_cons_succ, List.getElem?_cons_zero] at r0 r1 r2 r3 r4
      have t0 := R.free 0
      have t1 := R.free 1
      have t2 := R.free 2
      have t3 := R.free 3
      have t4 := R.free 4
      have HR := Lib.hid R
      clear R
      go_wp2_with fail
      have R := HR.out
      clear r0 t0 r1 t1 r2 t2 r3 t3 r4 t4
      have RF0 : Whl (w6.setCell ⟨w.heap.size, 0, none⟩ (.int .i64 n0)) w.heap.size 47 #[.int .i64 n0, .int .i64 0, .int .i64 0, .int .i64 0, .string ⟨#[]⟩] := Whl.set R 0 (.int .i64 n0)
      have RF1 : Whl ((w6.setCell ⟨w.heap.size, 0, none⟩ (.int .i64 n0)).setCell ⟨w.heap.size, 1, none⟩ (.int .i64 n1)) w.heap.size 47 #[.int .i64 n0, .int .i64 n1, .int .i64 0, .int .i64 0, .string ⟨#[]⟩] := Whl.set RF0 1 (.int .i64 n1)
      have RF2 : Whl (((w6.setCell ⟨w.heap.size, 0, none⟩ (.int .i64 n0)).setCell ⟨w.heap.size, 1, none⟩ (.int .i64 n1)).setCell ⟨w.heap.size, 2, none⟩ (.int .i64 n2)) w.heap.size 47 #[.int .i64 n0, .int .i64 n1, .int .i64 n2, .int .i64 0, .string ⟨#[]⟩] := Whl.set RF1 2 (.int .i64 n2)
      have RF3 : Whl ((((w6.setCell ⟨w.heap.size, 0, none⟩ (.int .i64 n0)).setCell ⟨w.heap.size, 1, none⟩ (.int .i64 n1)).setCell ⟨w.heap.size, 2, none⟩ (.int .i64 n2)).setCell ⟨w.heap.size, 3, none⟩ (.int .i64 n3)) w.heap.size 47 #[.int .i64 n0, .int .i64 n1, .int .i64 n2, .int .i64 n3, .string ⟨#[]⟩] := Whl.set RF2 3 (.int .i64 n3)
      have RF4 : Whl (((((w6.setCell ⟨w.heap.size, 0, none⟩ (.int .i64 n0)).setCell ⟨w.heap.size, 1, none⟩ (.int .i64 n1)).setCell ⟨w.heap.size, 2, none⟩ (.int .i64 n2)).setCell ⟨w.heap.size, 3, none⟩ (.int .i64 n3)).setCell ⟨w.heap.size, 4, none⟩ (.string t4)) w.heap.size 47 #[.int .i64 n0, .int .i64 n1, .int .i64 n2, .int .i64 n3, .string t4] := Whl.set RF3 4 (.string t4)
      have RF := RF4
      clear RF0 RF1 RF2 RF3 RF4
      have BF : Below w.heap.size w (((((w6.setCell ⟨w.heap.size, 0, none⟩ (.int .i64 n0)).setCell ⟨w.heap.size, 1, none⟩ (.int .i64 n1)).setCell ⟨w.heap.size, 2, none⟩ (.int .i64 n2)).setCell ⟨w.heap.size, 3, none⟩ (.int .i64 n3)).setCell ⟨w.heap.size, 4, none⟩ (.string t4)) := ((((B8.setCell (Nat.le_refl _) _).setCell (Nat.le_refl _) _).setCell (Nat.le_refl _) _).setCell (Nat.le_refl _) _).setCell (Nat.le_refl _) _
      generalize (((((w6.setCell ⟨w.heap.size, 0, none⟩ (.int .i64 n0)).setCell ⟨w.heap.size, 1, none⟩ (.int .i64 n1)).setCell ⟨w.heap.size, 2, none⟩ (.int .i64 n2)).setCell ⟨w.heap.size, 3, none⟩ (.int .i64 n3)).setCell ⟨w.heap.size, 4, none⟩ (.string t4)) = Z at *
      have q0 := RF.cell 0
      have q1 := RF.cell 1
      have q2 := RF.cell 2
      have q3 := RF.cell 3
      have q4 := RF.cell 4
      simp only [List.getElem?_toArray, List.getElem?_cons_succ, List.getElem?_cons_zero] at q0 q1 q2 q3 q4
      clear R
      refine bodyPost_ret (v := .tuple #[.agg #[.int .i64 n0, .int .i64 n1, .int .i64 n2, .int .i64 n3, .string t4], .int .i64 0]) (by simp [results, Try.results25, go_sem, ↓IntWalk.iteOmega, *]) rfl ⟨by rw [HVV.out], BF⟩
set_option maxHeartbeats 8000000 in
set_option maxRecDepth 10000 in
theorem rdDecChange (A : Option Addr) (c : Nat) (xs : List Nat) (w : World) (hn : xs.length ≤ 10000) (hcap : xs.length ≤ c) (hcm : c ≤ maxLen) (h256 : ∀ x ∈ xs, x < 256) (hx : Cells w w.heap.size A xs.length c 1 (flatU xs)) :
    Calls Try.prog 26 #[.slice A xs.length c] w fun e w' => e = .returned (chAns (some xs)) ∧ Below w.heap.size w w' := by
  have hw2 : Below w.heap.size w ((w.alloc (.cells #[.int .i64 0, .int .i64 0, .int .i64 0, .int .i64 0, .string ⟨#[]⟩] 47)).alloc (.cells #[.slice A xs.length c, .bool false] 98)) := ((Below.refl _ _).alloc (Nat.le_refl _) _).alloc (by simp) _
  have HX := Lib.hid (cells_keep hx hw2 (by omega : w.heap.size ≤ w.heap.size + 1))
  have HS0 : Hid (RS ((w.alloc (.cells #[.int .i64 0, .int .i64 0, .int .i64 0, .int .i64 0, .string ⟨#[]⟩] 47)).alloc (.cells #[.slice A xs.length c, .bool false] 98)) (w.heap.size + 1) (some xs)) :=
    Lib.hid (RS.of ⟨⟨A, c, by ((repeat (first | (with_reducible assumption) | ((with_reducible refine c_set_same ?_); ((repeat (first | (with_reducible exact h_of (by assumption)) | (with_reducible assumption) | (with_reducible refine h_set ?_) | ((with_reducible refine h_alloc ?_ ?_); · (first | omega | (simp; done) | (simp; omega))) | ((with_reducible refine h_new ?_ ?_) <;> (first | omega | (simp; done) | (simp; omega))) | (with_reducible refine h_drew ?_) | (with_reducible refine h_drewN ?_) | ((with_reducible refine h_keep (by assumption) ?_ ?_); · (first | omega | (simp; done) | (simp; omega))))); done)) | ((with_reducible refine c_set_other ?_ ?_); · (first | omega | (simp; done) | (simp; omega))) | ((with_reducible refine c_alloc ?_ ?_); · (first | omega | (simp; done) | (simp; omega))) | ((with_reducible refine c_new ?_ ?_) <;> (first | omega | (simp; done) | (simp; omega))) | (with_reducible refine c_drew ?_) | (with_reducible refine c_drewN ?_) | ((with_reducible refine c_keep (by assumption) ?_ ?_); · (first | omega | (simp; done) | (simp; omega))))); done), hcap, hcm, HX.out⟩, by ((repeat (first | (with_reducible assumption) | ((with_reducible refine c_set_same ?_); ((repeat (first | (with_reducible exact h_of (by assumption)) | (with_reducible assumption) | (with_reducible refine h_set ?_) | ((with_reducible refine h_alloc ?_ ?_); · (first | omega | (simp; done) | (simp; omega))) | ((with_reducible refine h_new ?_ ?_) <;> (first | omega | (simp; done) | (simp; omega))) | (with_reducible refine h_drew ?_) | (with_reducible refine h_drewN ?_) | ((with_reducible refine h_keep (by assumption) ?_ ?_); · (first | omega | (simp; done) | (simp; omega))))); done)) | ((with_reducible refine c_set_other ?_ ?_); · (first | omega | (simp; done) | (simp; omega))) | ((with_reducible refine c_alloc ?_ ?_); · (first | omega | (simp; done) | (simp; omega))) | ((with_reducible refine c_new ?_ ?_) <;> (first | omega | (simp; done) | (simp; omega))) | (with_reducible refine c_drew ?_) | (with_reducible refine c_drewN ?_) | ((with_reducible refine c_keep (by assumption) ?_ ?_); · (first | omega | (simp; done) | (simp; omega))))); done), by intro j; ((repeat (first | (with_reducible assumption) | (with_reducible refine f_set ?_) | ((with_reducible refine f_alloc ?_ ?_); · (first | omega | (simp; done) | (simp; omega))) | ((with_reducible refine f_new ?_); (first | omega | (simp; done) | (simp; omega)); done) | (with_reducible refine f_drew ?_) | (with_reducible refine f_drewN ?_) | ((with_reducible refine f_keep (by assumption) ?_ ?_); · (first | omega | (simp; done) | (simp; omega))))); done), by simp⟩ (by omega) h256)
  have R : Whl ((w.alloc (.cells #[.int .i64 0, .int .i64 0, .int .i64 0, .int .i64 0, .string ⟨#[]⟩] 47)).alloc (.cells #[.slice A xs.length c, .bool false] 98)) w.heap.size 47 #[.int .i64 0, .int .i64 0, .int .i64 0, .int .i64 0, .string ⟨#[]⟩] := Whl.alloc (Whl.new rfl) _
  have B := Lib.hid hw2
  clear hx h256 hw2 HX
  go_enter Try.func26, Try.ntmps26
  go_wp2_with fail
  refine (rfNxT (w.heap.size + 1) (some xs) _ HS0.out).mono ?_
  rintro e v0 ⟨rfl, hrs, ht⟩
  have hl0 := ht.size
  (try simp at hl0)
  replace R := R.tch ht (by omega)
  have B0 : Below w.heap.size w v0 := B.out.trans (ht.below (by omega) (by simp; omega))
  obtain ⟨n0, hn0⟩ : ∃ z : Int, z = ((nx (some xs)).1 : Int) := ⟨_, rfl⟩
  rw [← hn0]
  have HN0 := Lib.hid hn0
  have HS1 := Lib.hid hrs
  clear hn0 hrs ht HS0 B
  go_wp2_with fail
  refine (rfNxT (w.heap.size + 1) (nx (some xs)).2 _ HS1.out).mono ?_
  rintro e v1 ⟨rfl, hrs, ht⟩
  have hl1 := ht.size
  (try simp at hl1)
  replace R := R.tch ht (by omega)
  have B1 : Below w.heap.size w v1 := B0.trans (ht.below (by omega) (by omega))
  obtain ⟨n1, hn1⟩ : ∃ z : Int, z = ((nx (nx (some xs)).2).1 : Int) := ⟨_, rfl⟩
  rw [← hn1]
  have HN1 := Lib.hid hn1
  have HS2 := Lib.hid hrs
  clear hn1 hrs ht HS1 B0
  go_wp2_with fail
  refine (rfNxT (w.heap.size + 1) (nx (nx (some xs)).2).2 _ HS2.out).mono ?_
  rintro e v2 ⟨rfl, hrs, ht⟩
  have hl2 := ht.size
  (try simp at hl2)
  replace R := R.tch ht (by omega)
  have B2 : Below w.heap.size w v2 := B1.trans (ht.below (by omega) (by omega))
  obtain ⟨n2, hn2⟩ : ∃ z : Int, z = ((nx (nx (nx (some xs)).2).2).1 : Int) := ⟨_, rfl⟩
  rw [← hn2]
  have HN2 := Lib.hid hn2
  have HS3 := Lib.hid hrs
  clear hn2 hrs ht HS2 B1
  go_wp2_with fail
  refine (rfNxT (w.heap.size + 1) (nx (nx (nx (some xs)).2).2).2 _ HS3.out).mono ?_
  rintro e v3 ⟨rfl, hrs, ht⟩
  have hl3 := ht.size
  (try simp at hl3)
  replace R := R.tch ht (by omega)
  have B3 : Below w.heap.size w v3 := B2.trans (ht.below (by omega) (by omega))
  obtain ⟨n3, hn3⟩ : ∃ z : Int, z = ((nx (nx (nx (nx (some xs)).2).2).2).1 : Int) := ⟨_, rfl⟩
  rw [← hn3]
  have HN3 := Lib.hid hn3
  have HS4 := Lib.hid hrs
  clear hn3 hrs ht HS3 B2
  go_wp2_with fail
  refine (rfNb (w.heap.size + 1) (nx (nx (nx (nx (some xs)).2).2).2).2 _ HS4.out).mono ?_
  rintro e v4 ⟨y4, rfl, hown, hrs, ht⟩
  have hl4 := ht.size
  replace R := R.tch ht (by omega)
  have B4 : Below w.heap.size w v4 := B3.trans (ht.below (by omega) (by omega))
  have cv := conv_own hown
  obtain ⟨t4, ht4⟩ : ∃ z : ByteArray, z = strU (nb (nx (nx (nx (nx (some xs)).2).2).2).2).1 := ⟨_, rfl⟩
  rw [← ht4] at cv
  have HT4 := Lib.hid ht4
  have HS5 : Hid (RS v4 (w.heap.size + 1) (chE (some xs))) := Lib.hid hrs
  clear ht4 ht hown hrs HS4 B3
  go_wp2_with fail
  have X : Whl (v4.alloc (.cells #[.int .i64 n0, .int .i64 n1, .int .i64 n2, .int .i64 n3, .string t4] 47)) v4.heap.size 47 #[.int .i64 n0, .int .i64 n1, .int .i64 n2, .int .i64 n3, .string t4] := Whl.new rfl
  replace R := R.alloc (.cells #[.int .i64 n0, .int .i64 n1, .int .i64 n2, .int .i64 n3, .string t4] 47)
  have HS6 := Lib.hid (RS.alloc HS5.out (.cells #[.int .i64 n0, .int .i64 n1, .int .i64 n2, .int .i64 n3, .string t4] 47))
  have B5 : Below w.heap.size w (v4.alloc (.cells #[.int .i64 n0, .int .i64 n1, .int .i64 n2, .int .i64 n3, .string t4] 47)) := B4.alloc (by omega) _
  have hz3 : v4.heap.size < (v4.alloc (.cells #[.int .i64 n0, .int .i64 n1, .int .i64 n2, .int .i64 n3, .string t4] 47)).heap.size := by simp
  have hgw : w.heap.size + 1 < v4.heap.size := by omega
  generalize (v4.alloc (.cells #[.int .i64 n0, .int .i64 n1, .int .i64 n2, .int .i64 n3, .string t4] 47)) = U at *
  generalize v4.heap.size = G at *
  have XX := Lib.hid X
  clear HS5 B4 cv
  have HC : Hid (chD (some xs) = ⟨n0, n1, n2, n3, t4⟩) := Lib.hid (by rw [HN0.out, HN1.out, HN2.out, HN3.out, HT4.out]; rfl)
  have HBAD : Hid (chB (some xs) = false → chAns (some xs) = .tuple #[.agg #[.int .i64 0, .int .i64 0, .int .i64 0, .int .i64 0, .string ⟨#[]⟩], .int .i64 3]) := Lib.hid (fun h => by unfold chAns; rw [h]; rfl)
  have HGOOD : Hid (chB (some xs) = true → chAns (some xs) = .tuple #[.agg #[.int .i64 n0, .int .i64 n1, .int .i64 n2, .int .i64 n3, .string t4], .int .i64 0]) := Lib.hid (fun h => by unfold chAns; rw [h, HC.out]; rfl)
  refine (rfAll _ _ _ HS6.out).mono ?_
  rintro e w5 ⟨rfl, rfl⟩
  cases hall : allOf (chE (some xs))
  · have HVV := Lib.hid (HBAD.out (by unfold chB; rw [hall]; rfl))
    clear X
    have r0 := R.cell 0
    have r1 := R.cell 1
    have r2 := R.cell 2
    have r3 := R.cell 3
    have r4 := R.cell 4
    simp only [List.getElem?_toArray, List.getElem?_cons_succ, List.getElem?_cons_zero] at r0 r1 r2 r3 r4
    have t0 := R.free 0
    have t1 := R.free 1
    have t2 := R.free 2
    have t3 := R.free 3
    have t4 := R.free 4
    have HR := Lib.hid R
    clear R
    go_wp2_with fail
    have R := HR.out
    clear r0 t0 r1 t1 r2 t2 r3 t3 r4 t4
    have RF0 : Whl (U.setCell ⟨w.heap.size, 0, none⟩ (.int .i64 0)) w.heap.size 47 #[.int .i64 0, .int .i64 0, .int .i64 0, .int .i64 0, .string ⟨#[]⟩] := Whl.set R 0 (.int .i64 0)
    have RF1 : Whl ((U.setCell ⟨w.heap.size, 0, none⟩ (.int .i64 0)).setCell ⟨w.heap.size, 1, none⟩ (.int .i64 0)) w.heap.size 47 #[.int .i64 0, .int .i64 0, .int .i64 0, .int .i64 0, .string ⟨#[]⟩] := Whl.set RF0 1 (.int .i64 0)
    have RF2 : Whl (((U.setCell ⟨w.heap.size, 0, none⟩ (.int .i64 0)).setCell ⟨w.heap.size, 1, none⟩ (.int .i64 0)).setCell ⟨w.heap.size, 2, none⟩ (.int .i64 0)) w.heap.size 47 #[.int .i64 0, .int .i64 0, .int .i64 0, .int .i64 0, .string ⟨#[]⟩] := Whl.set RF1 2 (.int .i64 0)
    have RF3 : Whl ((((U.setCell ⟨w.heap.size, 0, none⟩ (.int .i64 0)).setCell ⟨w.heap.size, 1, none⟩ (.int .i64 0)).setCell ⟨w.heap.size, 2, none⟩ (.int .i64 0)).setCell ⟨w.heap.size, 3, none⟩ (.int .i64 0)) w.heap.size 47 #[.int .i64 0, .int .i64 0, .int .i64 0, .int .i64 0, .string ⟨#[]⟩] := Whl.set RF2 3 (.int .i64 0)
    have RF4 : Whl (((((U.setCell ⟨w.heap.size, 0, none⟩ (.int .i64 0)).setCell ⟨w.heap.size, 1, none⟩ (.int .i64 0)).setCell ⟨w.heap.size, 2, none⟩ (.int .i64 0)).setCell ⟨w.heap.size, 3, none⟩ (.int .i64 0)).setCell ⟨w.heap.size, 4, none⟩ (.string ⟨#[]⟩)) w.heap.size 47 #[.int .i64 0, .int .i64 0, .int .i64 0, .int .i64 0, .string ⟨#[]⟩] := Whl.set RF3 4 (.string ⟨#[]⟩)
    have RF := RF4
    clear RF0 RF1 RF2 RF3 RF4
    have BF : Below w.heap.size w (((((U.setCell ⟨w.heap.size, 0, none⟩ (.int .i64 0)).setCell ⟨w.heap.size, 1, none⟩ (.int .i64 0)).setCell ⟨w.heap.size, 2, none⟩ (.int .i64 0)).setCell ⟨w.heap.size, 3, none⟩ (.int .i64 0)).setCell ⟨w.heap.size, 4, none⟩ (.string ⟨#[]⟩)) := ((((B5.setCell (Nat.le_refl _) _).setCell (Nat.le_refl _) _).setCell (Nat.le_refl _) _).setCell (Nat.le_refl _) _).setCell (Nat.le_refl _) _
    generalize (((((U.setCell ⟨w.heap.size, 0, none⟩ (.int .i64 0)).setCell ⟨w.heap.size, 1, none⟩ (.int .i64 0)).setCell ⟨w.heap.size, 2, none⟩ (.int .i64 0)).setCell ⟨w.heap.size, 3, none⟩ (.int .i64 0)).setCell ⟨w.heap.size, 4, none⟩ (.string ⟨#[]⟩)) = Z at *
    have q0 := RF.cell 0
    have q1 := RF.cell 1
    have q2 := RF.cell 2
    have q3 := RF.cell 3
    have q4 := RF.cell 4
    simp only [List.getElem?_toArray, List.getElem?_cons_succ, List.getElem?_cons_zero] at q0 q1 q2 q3 q4
    clear R
    refine bodyPost_ret (v := .tuple #[.agg #[.int .i64 0, .int .i64 0, .int .i64 0, .int .i64 0, .string ⟨#[]⟩], .int .i64 3]) (by simp [results, Try.results26, go_sem, ↓IntWalk.iteOmega, *]) rfl ⟨by rw [HVV.out], BF⟩
  · have HALL := Lib.hid hall
    have d0 := X.cell 0
    have d1 := X.cell 1
    have d2 := X.cell 2
    have d3 := X.cell 3
    have d4 := X.cell 4
    simp only [List.getElem?_toArray, List.getElem?_cons_succ, List.getElem?_cons_zero] at d0 d1 d2 d3 d4
    clear X
    go_wp2_with fail
    clear d0 d1 d2 d3 d4
    refine (rdMayChange ⟨n0, n1, n2, n3, t4⟩ _).mono ?_
    rintro e w6 ⟨rfl, hb6⟩
    have hs6 := hb6.size
    have B8 : Below w.heap.size w w6 := B5.trans (hb6.mono (by omega))
    replace R := R.below hb6 (by omega)
    have X := XX.out.below hb6 (by omega)
    cases hp : decide (OkCh ⟨n0, n1, n2, n3, t4⟩)
    · have HVV := Lib.hid (HBAD.out (by unfold chB; rw [HC.out, hp]; simp))
      clear X
      have r0 := R.cell 0
      have r1 := R.cell 1
      have r2 := R.cell 2
      have r3 := R.cell 3
      have r4 := R.cell 4
      simp only [List.getElem?_toArray, List.getElem?_cons_succ, List.getElem?_cons_zero] at r0 r1 r2 r3 r4
      have t0 := R.free 0
      have t1 := R.free 1
      have t2 := R.free 2
      have t3 := R.free 3
      have t4 := R.free 4
      have HR := Lib.hid R
      clear R
      go_wp2_with fail
      have R := HR.out
      clear r0 t0 r1 t1 r2 t2 r3 t3 r4 t4
      have RF0 : Whl (w6.setCell ⟨w.heap.size, 0, none⟩ (.int .i64 0)) w.heap.size 47 #[.int .i64 0, .int .i64 0, .int .i64 0, .int .i64 0, .string ⟨#[]⟩] := Whl.set R 0 (.int .i64 0)
      have RF1 : Whl ((w6.setCell ⟨w.heap.size, 0, none⟩ (.int .i64 0)).setCell ⟨w.heap.size, 1, none⟩ (.int .i64 0)) w.heap.size 47 #[.int .i64 0, .int .i64 0, .int .i64 0, .int .i64 0, .string ⟨#[]⟩] := Whl.set RF0 1 (.int .i64 0)
      have RF2 : Whl (((w6.setCell ⟨w.heap.size, 0, none⟩ (.int .i64 0)).setCell ⟨w.heap.size, 1, none⟩ (.int .i64 0)).setCell ⟨w.heap.size, 2, none⟩ (.int .i64 0)) w.heap.size 47 #[.int .i64 0, .int .i64 0, .int .i64 0, .int .i64 0, .string ⟨#[]⟩] := Whl.set RF1 2 (.int .i64 0)
      have RF3 : Whl ((((w6.setCell ⟨w.heap.size, 0, none⟩ (.int .i64 0)).setCell ⟨w.heap.size, 1, none⟩ (.int .i64 0)).setCell ⟨w.heap.size, 2, none⟩ (.int .i64 0)).setCell ⟨w.heap.size, 3, none⟩ (.int .i64 0)) w.heap.size 47 #[.int .i64 0, .int .i64 0, .int .i64 0, .int .i64 0, .string ⟨#[]⟩] := Whl.set RF2 3 (.int .i64 0)
      have RF4 : Whl (((((w6.setCell ⟨w.heap.size, 0, none⟩ (.int .i64 0)).setCell ⟨w.heap.size, 1, none⟩ (.int .i64 0)).setCell ⟨w.heap.size, 2, none⟩ (.int .i64 0)).setCell ⟨w.heap.size, 3, none⟩ (.int .i64 0)).setCell ⟨w.heap.size, 4, none⟩ (.string ⟨#[]⟩)) w.heap.size 47 #[.int .i64 0, .int .i64 0, .int .i64 0, .int .i64 0, .string ⟨#[]⟩] := Whl.set RF3 4 (.string ⟨#[]⟩)
      have RF := RF4
      clear RF0 RF1 RF2 RF3 RF4
      have BF : Below w.heap.size w (((((w6.setCell ⟨w.heap.size, 0, none⟩ (.int .i64 0)).setCell ⟨w.heap.size, 1, none⟩ (.int .i64 0)).setCell ⟨w.heap.size, 2, none⟩ (.int .i64 0)).setCell ⟨w.heap.size, 3, none⟩ (.int .i64 0)).setCell ⟨w.heap.size, 4, none⟩ (.string ⟨#[]⟩)) := ((((B8.setCell (Nat.le_refl _) _).setCell (Nat.le_refl _) _).setCell (Nat.le_refl _) _).setCell (Nat.le_refl _) _).setCell (Nat.le_refl _) _
      generalize (((((w6.setCell ⟨w.heap.size, 0, none⟩ (.int .i64 0)).setCell ⟨w.heap.size, 1, none⟩ (.int .i64 0)).setCell ⟨w.heap.size, 2, none⟩ (.int .i64 0)).setCell ⟨w.heap.size, 3, none⟩ (.int .i64 0)).setCell ⟨w.heap.size, 4, none⟩ (.string ⟨#[]⟩)) = Z at *
      have q0 := RF.cell 0
      have q1 := RF.cell 1
      have q2 := RF.cell 2
      have q3 := RF.cell 3
      have q4 := RF.cell 4
      simp only [List.getElem?_toArray, List.getElem?_cons_succ, List.getElem?_cons_zero] at q0 q1 q2 q3 q4
      clear R
      refine bodyPost_ret (v := .tuple #[.agg #[.int .i64 0, .int .i64 0, .int .i64 0, .int .i64 0, .string ⟨#[]⟩], .int .i64 3]) (by simp [results, Try.results26, go_sem, ↓IntWalk.iteOmega, *]) rfl ⟨by rw [HVV.out], BF⟩
    · have HVV := Lib.hid (HGOOD.out (by unfold chB; rw [HC.out, hp, HALL.out]; rfl))
      have d0 := X.cell 0
      have d1 := X.cell 1
      have d2 := X.cell 2
      have d3 := X.cell 3
      have d4 := X.cell 4
      simp only [List.getElem?_toArray, List.getElem?_cons_succ, List.getElem?_cons_zero] at d0 d1 d2 d3 d4
      clear X
      have r0 := R.cell 0
      have r1 := R.cell 1
      have r2 := R.cell 2
      have r3 := R.cell 3
      have r4 := R.cell 4
      simp only [List.getElem?_toArray, List.getElem?_cons_succ, List.getElem?_cons_zero] at r0 r1 r2 r3 r4
      have t0 := R.free 0
      have t1 := R.free 1
      have t2 := R.free 2
      have t3 := R.free 3
      have t4 := R.free 4
      have HR := Lib.hid R
      clear R
      go_wp2_with fail
      have R := HR.out
      clear r0 t0 r1 t1 r2 t2 r3 t3 r4 t4
      have RF0 : Whl (w6.setCell ⟨w.heap.size, 0, none⟩ (.int .i64 n0)) w.heap.size 47 #[.int .i64 n0, .int .i64 0, .int .i64 0, .int .i64 0, .string ⟨#[]⟩] := Whl.set R 0 (.int .i64 n0)
      have RF1 : Whl ((w6.setCell ⟨w.heap.size, 0, none⟩ (.int .i64 n0)).setCell ⟨w.heap.size, 1, none⟩ (.int .i64 n1)) w.heap.size 47 #[.int .i64 n0, .int .i64 n1, .int .i64 0, .int .i64 0, .string ⟨#[]⟩] := Whl.set RF0 1 (.int .i64 n1)
      have RF2 : Whl (((w6.setCell ⟨w.heap.size, 0, none⟩ (.int .i64 n0)).setCell ⟨w.heap.size, 1, none⟩ (.int .i64 n1)).setCell ⟨w.heap.size, 2, none⟩ (.int .i64 n2)) w.heap.size 47 #[.int .i64 n0, .int .i64 n1, .int .i64 n2, .int .i64 0, .string ⟨#[]⟩] := Whl.set RF1 2 (.int .i64 n2)
      have RF3 : Whl ((((w6.setCell ⟨w.heap.size, 0, none⟩ (.int .i64 n0)).setCell ⟨w.heap.size, 1, none⟩ (.int .i64 n1)).setCell ⟨w.heap.size, 2, none⟩ (.int .i64 n2)).setCell ⟨w.heap.size, 3, none⟩ (.int .i64 n3)) w.heap.size 47 #[.int .i64 n0, .int .i64 n1, .int .i64 n2, .int .i64 n3, .string ⟨#[]⟩] := Whl.set RF2 3 (.int .i64 n3)
      have RF4 : Whl (((((w6.setCell ⟨w.heap.size, 0, none⟩ (.int .i64 n0)).setCell ⟨w.heap.size, 1, none⟩ (.int .i64 n1)).setCell ⟨w.heap.size, 2, none⟩ (.int .i64 n2)).setCell ⟨w.heap.size, 3, none⟩ (.int .i64 n3)).setCell ⟨w.heap.size, 4, none⟩ (.string t4)) w.heap.size 47 #[.int .i64 n0, .int .i64 n1, .int .i64 n2, .int .i64 n3, .string t4] := Whl.set RF3 4 (.string t4)
      have RF := RF4
      clear RF0 RF1 RF2 RF3 RF4
      have BF : Below w.heap.size w (((((w6.setCell ⟨w.heap.size, 0, none⟩ (.int .i64 n0)).setCell ⟨w.heap.size, 1, none⟩ (.int .i64 n1)).setCell ⟨w.heap.size, 2, none⟩ (.int .i64 n2)).setCell ⟨w.heap.size, 3, none⟩ (.int .i64 n3)).setCell ⟨w.heap.size, 4, none⟩ (.string t4)) := ((((B8.setCell (Nat.le_refl _) _).setCell (Nat.le_refl _) _).setCell (Nat.le_refl _) _).setCell (Nat.le_refl _) _).setCell (Nat.le_refl _) _
      generalize (((((w6.setCell ⟨w.heap.size, 0, none⟩ (.int .i64 n0)).setCell ⟨w.heap.size, 1, none⟩ (.int .i64 n1)).setCell ⟨w.heap.size, 2, none⟩ (.int .i64 n2)).setCell ⟨w.heap.size, 3, none⟩ (.int .i64 n3)).setCell ⟨w.heap.size, 4, none⟩ (.string t4)) = Z at *
      have q0 := RF.cell 0
      have q1 := RF.cell 1
      have q2 := RF.cell 2
      have q3 := RF.cell 3
      have q4 := RF.cell 4
      simp only [List.getElem?_toArray, List.getElem?_cons_succ, List.getElem?_cons_zero] at q0 q1 q2 q3 q4
      clear R
      refine bodyPost_ret (v := .tuple #[.agg #[.int .i64 n0, .int .i64 n1, .int .i64 n2, .int .i64 n3, .string t4], .int .i64 0]) (by simp [results, Try.results26, go_sem, ↓IntWalk.iteOmega, *]) rfl ⟨by rw [HVV.out], BF⟩
end Go.Proofs.Ytbohpjinkdffhaa
