/- The document's directory: merges, splits, zone. -/
import Derived.Test.YtbohpjinkdffhaaRdP
import Derived.Test.YtbohpjinkdffhaaRdA
import Derived.Test.YtbohpjinkdffhaaSqR
import Derived.Test.YtbohpjinkdffhaaDrM
namespace Go.Proofs.Ytbohpjinkdffhaa
open Go.RowKit
set_option linter.unusedVariables false
set_option linter.unusedSimpArgs false

theorem nil_size' {s : ByteArray} : s.size = 0 ↔ s = ⟨#[]⟩ := nil_size
theorem nw_at : ∀ {l : List Zn}, (idsA l).Nodup → ∀ {i j : Nat} (hi : i < l.length) (hj : j < l.length), l[i].pd = 1 → l[j].pd = 1 → l[i].nw = l[j].nw → i = j
  | [], _, i, _, hi, _, _, _, _ => by cases hi
  | a :: r, h, i, j, hi, hj, hp, hq, e => by
    rw [idsA_cons, List.nodup_append] at h
    obtain ⟨_, h2, h3⟩ := h
    cases i with
    | zero =>
      cases j with
      | zero => rfl
      | succ j =>
        have ha : a.nw ∈ idsZ a := by
          have hp : a.pd = 1 := hp
          simp [idsZ, hp]
        exact absurd e (h3 _ ha _ (nw_mem (List.getElem_mem (by simpa using hj)) hq))
    | succ i =>
      cases j with
      | zero =>
        have ha : a.nw ∈ idsZ a := by
          have hq : a.pd = 1 := hq
          simp [idsZ, hq]
        exact absurd e.symm (h3 _ ha _ (nw_mem (List.getElem_mem (by simpa using hi)) hp))
      | succ j => exact congrArg (· + 1) (nw_at h2 (i := i) (j := j) (by simpa using hi) (by simpa using hj) (by simpa using hp) (by simpa using hq) (by simpa using e))
set_option maxHeartbeats 8000000 in
set_option maxRecDepth 10000 in
theorem rdMergesA (B i k : Nat) (zv : Value) (l : List Zn) (w : World) (h : w.ownsRow B 39 9 zv l.length (flatZ l)) (hl : l.length ≤ 1000) (hi : i < l.length) (hk : k < l.length) (hke : k = i + 1) (hn : (idsA l).Nodup) (hp : Pair l[i] l[k]) :
    Calls Try.prog 88 #[zv, .int .i64 i] w fun e w' => e = .returned (.bool true) ∧ Below w.heap.size w w' := by
  have HR := Lib.hid h
  obtain ⟨gz, cc, hzv, _, hgz, hnc, hcm⟩ := own_form h (by omega)
  subst hzv
  have q3 : (i : Int) < (l.length : Int) := by omega
  have q4 : (k : Int) < (l.length : Int) := by omega
  obtain ⟨z, hz⟩ : ∃ z, z = l[i] := ⟨_, rfl⟩
  obtain ⟨y, hy⟩ : ∃ y, y = l[k] := ⟨_, rfl⟩
  obtain ⟨v0, v1, v2, v3, v4, v5, v6, v7, v8⟩ := rowZ_at h hi
  obtain ⟨u0, u1, u2, u3, u4, u5, u6, u7, u8⟩ := rowZ_at h hk
  rw [← hz] at v0 v1 v2 v3 v4 v5 v6 v7 v8
  rw [← hy] at u0 u1 u2 u3 u4 u5 u6 u7 u8
  have hpz : z.mv = 0 ∧ z.ky.size = 0 ∧ z.nw = y.id ∧ y.pd = 2 ∧ y.nw = z.id ∧ y.ow = z.ow := by
    rw [hz, hy]
    exact ⟨hp.ma, hp.ka, hp.na, hp.pb, hp.nb, hp.ow.symm⟩
  obtain ⟨e1, e2, e3, e4, e5, e6⟩ := hpz
  have e2 := nil_size.1 e2
  rw [e1] at v6
  rw [e2] at v7
  rw [e4] at u5
  rw [e5] at u8
  rw [e6] at u3
  have hat : ∀ k2 : Int, At l z.nw l.length k2 → k2 = (k : Int) := by
    intro k2 h2
    have hid : l[k].id = z.nw := by rw [← hy]; exact e3.symm
    rcases h2 with ⟨_, hno⟩ | ⟨j, rfl, hj, hjd, _⟩
    · exact absurd hid (hno k hk hk)
    · have := ids_at hn hj hk (hjd.trans hid.symm)
      omega
  have HAT := Lib.hid hat
  subst hke
  have ei : (i + 1) * 9 = i * 9 + 9 := by omega
  rw [ei] at u0 u1 u2 u3 u4 u5 u6 u7 u8
  simp only [Nat.add_assoc, Nat.reduceAdd] at u0 u1 u2 u3 u4 u5 u6 u7 u8
  have q5 : (i : Int) + 1 < (l.length : Int) := by omega
  have q6 : (0 : Int) ≤ (i : Int) + 1 := by omega
  have n4 : decide ((i : Int) + 1 < 0) = false := decide_eq_false (by omega)
  have w1 : IntKind.i64.wrap ((i : Int) + 1) = ((i + 1 : Nat) : Int) := by rw [IntKind.wrap_i64]; omega
  have n1 : decide (((i + 1 : Nat) : Int) < 0) = false := decide_eq_false (by omega)
  have n2 : (((i + 1 : Nat) : Int) != ((i + 1 : Nat) : Int)) = false := by simp
  clear h hz hy hat hn hp e1 e2 e3 e4 e5 e6
  go_enter Try.func88, Try.ntmps88
  go_wp2_with (first
    | (go_at_call 40; refine (rdFind B _ l z.nw _ (HR.out.alloc _) (by omega)).mono ?_; rintro e w2 ⟨k2, rfl, hk2, hb2⟩; obtain rfl := HAT.out k2 hk2; have HB2 := Lib.hid hb2; obtain ⟨hc2, hf2⟩ := bcell hb2; clear hb2 hk2)
    | fail)
  have hBW : Below w.heap.size w w2 := ((Below.refl _ _).alloc (Nat.le_refl _) _).trans (HB2.out.mono (by simp))
  have HBW := Lib.hid hBW
  have u3 := bkeep hBW u3 hgz
  have u5 := bkeep hBW u5 hgz
  have u8 := bkeep hBW u8 hgz
  have hPZ : Whl w2 w.heap.size 39 #[.int .i64 z.id, .string z.fr, .string z.tt, .int .i64 z.ow, .int .i64 z.ep, .int .i64 z.pd, .int .i64 0, .string ⟨#[]⟩, .int .i64 z.nw] := (Whl.new rfl).below HB2.out (by simp)
  have p0 := hPZ.cell 0
  have p1 := hPZ.cell 1
  have p2 := hPZ.cell 2
  have p3 := hPZ.cell 3
  have p4 := hPZ.cell 4
  have p5 := hPZ.cell 5
  have p6 := hPZ.cell 6
  have p7 := hPZ.cell 7
  have p8 := hPZ.cell 8
  simp only [List.getElem?_toArray, List.getElem?_cons_succ, List.getElem?_cons_zero] at p0 p1 p2 p3 p4 p5 p6 p7 p8
  clear hBW hPZ hc2 hf2
  go_quiet (fail)
  go_wp2_with fail
  go_ret
  exact ⟨rfl, b_drewN HBW.out⟩
set_option maxHeartbeats 8000000 in
set_option maxRecDepth 10000 in
theorem rdMergesB (B i k : Nat) (zv : Value) (l : List Zn) (w : World) (h : w.ownsRow B 39 9 zv l.length (flatZ l)) (hl : l.length ≤ 1000) (hi : i < l.length) (hk : k < l.length) (hke : i = k + 1) (hn : (idsA l).Nodup) (hp : Pair l[k] l[i]) :
    Calls Try.prog 88 #[zv, .int .i64 i] w fun e w' => e = .returned (.bool true) ∧ Below w.heap.size w w' := by
  have HR := Lib.hid h
  obtain ⟨gz, cc, hzv, _, hgz, hnc, hcm⟩ := own_form h (by omega)
  subst hzv
  have q3 : (i : Int) < (l.length : Int) := by omega
  have q4 : (k : Int) < (l.length : Int) := by omega
  obtain ⟨z, hz⟩ : ∃ z, z = l[i] := ⟨_, rfl⟩
  obtain ⟨y, hy⟩ : ∃ y, y = l[k] := ⟨_, rfl⟩
  obtain ⟨v0, v1, v2, v3, v4, v5, v6, v7, v8⟩ := rowZ_at h hi
  obtain ⟨u0, u1, u2, u3, u4, u5, u6, u7, u8⟩ := rowZ_at h hk
  rw [← hz] at v0 v1 v2 v3 v4 v5 v6 v7 v8
  rw [← hy] at u0 u1 u2 u3 u4 u5 u6 u7 u8
  have hpz : z.mv = 0 ∧ z.ky.size = 0 ∧ z.nw = y.id ∧ y.pd = 2 ∧ y.nw = z.id ∧ y.ow = z.ow := by
    rw [hz, hy]
    exact ⟨hp.mb, hp.kb, hp.nb, hp.pa, hp.na, hp.ow⟩
  obtain ⟨e1, e2, e3, e4, e5, e6⟩ := hpz
  have e2 := nil_size.1 e2
  rw [e1] at v6
  rw [e2] at v7
  rw [e4] at u5
  rw [e5] at u8
  rw [e6] at u3
  have hat : ∀ k2 : Int, At l z.nw l.length k2 → k2 = (k : Int) := by
    intro k2 h2
    have hid : l[k].id = z.nw := by rw [← hy]; exact e3.symm
    rcases h2 with ⟨_, hno⟩ | ⟨j, rfl, hj, hjd, _⟩
    · exact absurd hid (hno k hk hk)
    · have := ids_at hn hj hk (hjd.trans hid.symm)
      omega
  have HAT := Lib.hid hat
  have w1 : IntKind.i64.wrap ((i : Int) + 1) = (i : Int) + 1 := by rw [IntKind.wrap_i64]; omega
  have wq2 : IntKind.i64.wrap ((i : Int) - 1) = (k : Int) := by rw [IntKind.wrap_i64]; omega
  have n1 : decide ((k : Int) < 0) = false := decide_eq_false (by omega)
  have n2 : ((k : Int) != (i : Int) + 1) = true := by simp; omega
  have q0 : (0 : Int) ≤ (i : Int) - 1 := by omega
  have HKE := Lib.hid hke
  clear hke
  clear h hz hy hat hn hp e1 e2 e3 e4 e5 e6
  go_enter Try.func88, Try.ntmps88
  go_wp2_with (first
    | (go_at_call 40; refine (rdFind B _ l z.nw _ (HR.out.alloc _) (by omega)).mono ?_; rintro e w2 ⟨k2, rfl, hk2, hb2⟩; obtain rfl := HAT.out k2 hk2; have HB2 := Lib.hid hb2; obtain ⟨hc2, hf2⟩ := bcell hb2; clear hb2 hk2)
    | fail)
  have hBW : Below w.heap.size w w2 := ((Below.refl _ _).alloc (Nat.le_refl _) _).trans (HB2.out.mono (by simp))
  have HBW := Lib.hid hBW
  have u3 := bkeep hBW u3 hgz
  have u5 := bkeep hBW u5 hgz
  have u8 := bkeep hBW u8 hgz
  have hPZ : Whl w2 w.heap.size 39 #[.int .i64 z.id, .string z.fr, .string z.tt, .int .i64 z.ow, .int .i64 z.ep, .int .i64 z.pd, .int .i64 0, .string ⟨#[]⟩, .int .i64 z.nw] := (Whl.new rfl).below HB2.out (by simp)
  have p0 := hPZ.cell 0
  have p1 := hPZ.cell 1
  have p2 := hPZ.cell 2
  have p3 := hPZ.cell 3
  have p4 := hPZ.cell 4
  have p5 := hPZ.cell 5
  have p6 := hPZ.cell 6
  have p7 := hPZ.cell 7
  have p8 := hPZ.cell 8
  simp only [List.getElem?_toArray, List.getElem?_cons_succ, List.getElem?_cons_zero] at p0 p1 p2 p3 p4 p5 p6 p7 p8
  clear hBW hPZ hc2 hf2
  go_quiet (fail)
  go_wp2_with fail
  go_ret
  exact ⟨rfl, b_drewN HBW.out⟩
end Go.Proofs.Ytbohpjinkdffhaa
