/- The code's Decode, of any bytes. -/
import Derived.Test.YtepjehcmiofehaaGreatPq14
import Derived.Test.YtepjehcmiofehaaGreatPq18
import Derived.Test.YtepjehcmiofehaaGreatPq19
namespace Go.Proofs.YtepjehcmiofehaaGreat
open Go.RowKit
set_option linter.unusedVariables false
set_option linter.unusedSimpArgs false
theorem noU8_mp (a b : Int) (A : Option Addr) (n c : Nat) : noU8 #[.int .i64 a, .int .i64 b, .slice A n c] := by
  intro i x h
  match i with
  | 0 => simp at h
  | 1 => simp at h
  | 2 => simp at h
  | i + 3 => simp at h
theorem noU8_i (a : Int) : noU8 #[.int .i64 a] := by
  intro i x h
  match i with
  | 0 => simp at h
  | i + 1 => simp at h
/-- a map that is being read: the Reader b at state j, the map's block G (with value u for its zones), k zones read (a row v) -/
structure DS (b G j k : Nat) (s : Option (List Nat)) (ver nxt : Int) (w2 x : World) (u v : Value) : Prop where
  rs : RS x b (zS j s)
  g : Whl x G 24 #[.int .i64 ver, .int .i64 nxt, u]
  own : x.ownsRow w2.heap.size 56 9 v k (flatZ (zL k s))
  tou : Touch (fun q => q = b ∨ q = G) w2 x
  bl : b < w2.heap.size
  gl : G < w2.heap.size
  ne : G ≠ b
theorem DS.fresh {b G j k : Nat} {s : Option (List Nat)} {ver nxt : Int} {w2 x x' : World} {u v : Value} (h : DS b G j k s ver nxt w2 x u v) (hb : Below x.heap.size x x') : DS b G j k s ver nxt w2 x' u v :=
  ⟨h.rs.fresh hb, h.g.below hb h.g.low, row_below h.own hb, h.tou.trans (Touch.of_below hb) (fun n hn e => by have := h.tou.size; omega), h.bl, h.gl, h.ne⟩
theorem DS.take {b G j k : Nat} {s : Option (List Nat)} {ver nxt : Int} {w2 x x' : World} {u v : Value} (h : DS b G j k s ver nxt w2 x u v) (hr : RS x' b (znE (zS j s))) (ht : Tch b x x') : DS b G (j + 1) k s ver nxt w2 x' u v :=
  ⟨hr, h.g.tch ht h.ne, ht.touch.own h.own (fun q hq e => by have := (h.own.lt q hq).1; have := h.bl; omega), h.tou.trans ht.touch (fun n hn e => .inl e), h.bl, h.gl, h.ne⟩
theorem DS.app {b G j k : Nat} {s : Option (List Nat)} {ver nxt : Int} {w2 x x' : World} {u v v' : Value} {z : Zn} (h : DS b G j k s ver nxt w2 x u v) (hz : z = znD (zS k s)) (ho : x'.ownsRow w2.heap.size 56 9 v' (k + 1) (flatZ (zL k s) ++ znV z)) (ht : Touch (fun q => v.ownBlock = some q) x x') : DS b G j (k + 1) s ver nxt w2 x' u v' := by
  have hB : Below w2.heap.size x x' := ht.below h.tou.size (fun q hq => (h.own.lt q hq).1)
  refine ⟨h.rs.below hB h.bl, h.g.below hB h.gl, ?_, h.tou.trans ht (fun n hn e => by have := (h.own.lt n e).1; omega), h.bl, h.gl, h.ne⟩
  rw [zL, flatZ_app, ← hz]
  simpa [flatZ] using ho
theorem DS.store {b G j k : Nat} {s : Option (List Nat)} {ver nxt : Int} {w2 x : World} {v : Value} {A : Option Addr} {n c : Nat} (h : DS b G j k s ver nxt w2 x (.slice A n c) v) : DS b G j k s ver nxt w2 (x.setCell ⟨G, 2, none⟩ v) v v :=
  ⟨RS.setBlk h.rs h.g (noU8_mp _ _ _ _ _) h.ne v, Whl.set h.g 2 v, ((Touch.refl (fun q => q = G) x).set (fun _ => rfl)).own h.own (fun q hq e => by have := (h.own.lt q hq).1; have := h.gl; omega), h.tou.set (fun _ => .inr rfl), h.bl, h.gl, h.ne⟩
/-- what Decode answers -/
structure MapAns (s : Option (List Nat)) (base : Nat) (e : Ending) (w' : World) : Prop where
  yes : mOk s = true → ∃ zv, e = .returned (.tuple #[.agg #[.int .i64 (mD s).ver, .int .i64 (mD s).nxt, zv], .int .i64 0]) ∧ w'.ownsRow base 56 9 zv (mD s).zs.length (flatZ (mD s).zs)
  no : mOk s = false → e = .returned (.tuple #[.agg #[.int .i64 0, .int .i64 0, .slice none 0 0], .int .i64 3])
set_option maxHeartbeats 8000000 in
set_option maxRecDepth 10000 in
theorem drDecode (A : Option Addr) (c : Nat) (xs : List Nat) (w : World) (hn : xs.length ≤ 100000) (h256 : ∀ x ∈ xs, x < 256) (hx : Cells w w.heap.size A xs.length c 1 (flatU xs)) :
    Calls Tryz.prog 26 #[.slice A xs.length c] w fun e w' => MapAns (some xs) w.heap.size e w' ∧ Below w.heap.size w w' := by
  obtain ⟨i0, hi0, hz0, hz1, hz2⟩ := info_parts Tryz.infoZone
  have hw2 : Below w.heap.size w (((w.alloc (.cells #[.int .i64 0, .int .i64 0, .slice none 0 0] 24)).alloc (.cells #[.int .i64 0, .int .i64 0, .slice none 0 0] 24)).alloc (.cells #[.int .i64 0] 3)) := (((Below.refl _ _).alloc (Nat.le_refl _) _).alloc (by simp) _).alloc (by simp; omega) _
  have HX := Lib.hid (cells_keep hx hw2 (by simp; omega : w.heap.size ≤ (((w.alloc (.cells #[.int .i64 0, .int .i64 0, .slice none 0 0] 24)).alloc (.cells #[.int .i64 0, .int .i64 0, .slice none 0 0] 24)).alloc (.cells #[.int .i64 0] 3)).heap.size))
  have H256 := Lib.hid h256
  clear hx h256
  go_enter Tryz.func26, Tryz.ntmps26
  go_wp2_with fail
  refine (octNew A c xs _ (by omega) H256.out HX.out).mono ?_
  rintro e w1 ⟨b, rfl, hbs, hrs, hb⟩
  have hs1 := hb.size
  simp at hbs hs1
  have BX : Whl w1 (w.heap.size + 2) 3 #[.int .i64 0] := Whl.below (Whl.new (by simp)) hb (by simp)
  have X : Whl w1 (w.heap.size + 1) 24 #[.int .i64 0, .int .i64 0, .slice none 0 0] := Whl.below (Whl.alloc (Whl.new (by simp)) _) hb (by (try simp); (try omega))
  have R : Whl w1 w.heap.size 24 #[.int .i64 0, .int .i64 0, .slice none 0 0] := Whl.below (Whl.alloc (Whl.alloc (Whl.new rfl) _) _) hb (by simp; omega)
  have hbl := hrs.low
  have HS0 : Hid (RS w1 b (some xs)) := Lib.hid hrs
  have B0 : Below w.heap.size w w1 := hw2.trans (hb.mono (by simp; omega))
  clear hw2 hrs hb HX
  go_wp2_with fail
  have PP : Whl (w1.alloc (.cells #[.pointer (some ⟨w.heap.size + 1, 0, none⟩), .pointer (some ⟨w.heap.size + 1, 1, none⟩), .pointer (some ⟨w.heap.size + 2, 0, none⟩)] 99)) w1.heap.size 99 #[.pointer (some ⟨w.heap.size + 1, 0, none⟩), .pointer (some ⟨w.heap.size + 1, 1, none⟩), .pointer (some ⟨w.heap.size + 2, 0, none⟩)] := Whl.new rfl
  replace X := X.alloc (.cells #[.pointer (some ⟨w.heap.size + 1, 0, none⟩), .pointer (some ⟨w.heap.size + 1, 1, none⟩), .pointer (some ⟨w.heap.size + 2, 0, none⟩)] 99)
  replace R := R.alloc (.cells #[.pointer (some ⟨w.heap.size + 1, 0, none⟩), .pointer (some ⟨w.heap.size + 1, 1, none⟩), .pointer (some ⟨w.heap.size + 2, 0, none⟩)] 99)
  replace BX := BX.alloc (.cells #[.pointer (some ⟨w.heap.size + 1, 0, none⟩), .pointer (some ⟨w.heap.size + 1, 1, none⟩), .pointer (some ⟨w.heap.size + 2, 0, none⟩)] 99)
  have HSn := Lib.hid (RS.alloc HS0.out (.cells #[.pointer (some ⟨w.heap.size + 1, 0, none⟩), .pointer (some ⟨w.heap.size + 1, 1, none⟩), .pointer (some ⟨w.heap.size + 2, 0, none⟩)] 99))
  have Bn : Below w.heap.size w (w1.alloc (.cells #[.pointer (some ⟨w.heap.size + 1, 0, none⟩), .pointer (some ⟨w.heap.size + 1, 1, none⟩), .pointer (some ⟨w.heap.size + 2, 0, none⟩)] 99)) := B0.alloc (by omega) _
  have hz : w1.heap.size < (w1.alloc (.cells #[.pointer (some ⟨w.heap.size + 1, 0, none⟩), .pointer (some ⟨w.heap.size + 1, 1, none⟩), .pointer (some ⟨w.heap.size + 2, 0, none⟩)] 99)).heap.size := by simp
  clear HS0 B0
  generalize (w1.alloc (.cells #[.pointer (some ⟨w.heap.size + 1, 0, none⟩), .pointer (some ⟨w.heap.size + 1, 1, none⟩), .pointer (some ⟨w.heap.size + 2, 0, none⟩)] 99)) = U1 at *
  refine (octNums3 b w1.heap.size (w.heap.size + 1) (w.heap.size + 2) 0 1 0 _ _ _ _ _ (some xs) U1 HSn.out PP X (noU8_mp 0 0 none 0 0) BX (noU8_i 0) (by simp) (by simp) (by simp) (by omega) (by omega) (by omega) (by omega) (by omega) (by omega)).mono ?_
  rintro e w2 ⟨rfl, hrs, X2, BX2, ht⟩
  have hs2 := ht.size
  replace R := R.tou ht (by omega)
  have BB0 : Below w.heap.size w w2 := Bn.trans (ht.below (by omega) (by omega))
  obtain ⟨ver, hv⟩ : ∃ z : Int, z = ((nx (some xs)).1 : Int) := ⟨_, rfl⟩
  obtain ⟨nxt, hnx⟩ : ∃ z : Int, z = ((nx (nx (some xs)).2).1 : Int) := ⟨_, rfl⟩
  obtain ⟨n, hn2⟩ : ∃ z : Nat, z = mN (some xs) := ⟨_, rfl⟩
  obtain ⟨s3, hs3⟩ : ∃ z, z = mS (some xs) := ⟨_, rfl⟩
  replace X : Whl w2 (w.heap.size + 1) 24 #[.int .i64 ver, .int .i64 nxt, .slice none 0 0] := by rw [hv, hnx]; exact X2
  replace BX : Whl w2 (w.heap.size + 2) 3 #[.int .i64 (n : Int)] := by rw [hn2]; exact BX2
  have hrs3 : RS w2 b s3 := by rw [hs3]; exact hrs
  have HV := Lib.hid hv
  have HNX := Lib.hid hnx
  have HS3 := Lib.hid hs3
  have HN2 := Lib.hid hn2
  have HRS := Lib.hid hrs3
  have hnle : n ≤ 4611686018427387904 := by rw [hn2]; exact nx_le _
  have y0 := BX.cell 0
  simp only [List.getElem?_toArray, List.getElem?_cons_zero] at y0
  have hGl := X.low
  have hbl2 := hrs3.low
  have HXX := Lib.hid X
  have HBX := Lib.hid BX
  clear hrs hrs3 ht PP HSn Bn X2 BX2 hv hnx hn2 hs3 X BX
  by_cases hbig : (16 : Int) < (n : Int)
  · have hno : mOk (some xs) = false := mOk_big (by rw [← HN2.out]; omega)
    have r0 := R.cell 0
    have r1 := R.cell 1
    have r2 := R.cell 2
    simp only [List.getElem?_toArray, List.getElem?_cons_succ, List.getElem?_cons_zero] at r0 r1 r2
    have f0 := R.free 0
    have f1 := R.free 1
    have f2 := R.free 2
    have HRR := Lib.hid R
    clear R
    go_wp2_with fail
    have R := HRR.out
    clear r0 f0 r1 f1 r2 f2
    have RF0 : Whl (w2.setCell ⟨w.heap.size, 0, none⟩ (.int .i64 0)) w.heap.size 24 #[.int .i64 0, .int .i64 0, .slice none 0 0] := Whl.set R 0 (.int .i64 0)
    have BF0 : Below w.heap.size w (w2.setCell ⟨w.heap.size, 0, none⟩ (.int .i64 0)) := BB0.setCell (Nat.le_refl _) _
    have TF0 : Touch (fun q => q = w.heap.size) w2 (w2.setCell ⟨w.heap.size, 0, none⟩ (.int .i64 0)) := (Touch.refl (fun q => q = w.heap.size) w2).set (fun _ => rfl)
    have RF1 : Whl ((w2.setCell ⟨w.heap.size, 0, none⟩ (.int .i64 0)).setCell ⟨w.heap.size, 1, none⟩ (.int .i64 0)) w.heap.size 24 #[.int .i64 0, .int .i64 0, .slice none 0 0] := Whl.set RF0 1 (.int .i64 0)
    have BF1 : Below w.heap.size w ((w2.setCell ⟨w.heap.size, 0, none⟩ (.int .i64 0)).setCell ⟨w.heap.size, 1, none⟩ (.int .i64 0)) := BF0.setCell (Nat.le_refl _) _
    have TF1 : Touch (fun q => q = w.heap.size) w2 ((w2.setCell ⟨w.heap.size, 0, none⟩ (.int .i64 0)).setCell ⟨w.heap.size, 1, none⟩ (.int .i64 0)) := TF0.set (fun _ => rfl)
    have RF2 : Whl (((w2.setCell ⟨w.heap.size, 0, none⟩ (.int .i64 0)).setCell ⟨w.heap.size, 1, none⟩ (.int .i64 0)).setCell ⟨w.heap.size, 2, none⟩ (.slice none 0 0)) w.heap.size 24 #[.int .i64 0, .int .i64 0, .slice none 0 0] := Whl.set RF1 2 (.slice none 0 0)
    have BF2 : Below w.heap.size w (((w2.setCell ⟨w.heap.size, 0, none⟩ (.int .i64 0)).setCell ⟨w.heap.size, 1, none⟩ (.int .i64 0)).setCell ⟨w.heap.size, 2, none⟩ (.slice none 0 0)) := BF1.setCell (Nat.le_refl _) _
    have TF2 : Touch (fun q => q = w.heap.size) w2 (((w2.setCell ⟨w.heap.size, 0, none⟩ (.int .i64 0)).setCell ⟨w.heap.size, 1, none⟩ (.int .i64 0)).setCell ⟨w.heap.size, 2, none⟩ (.slice none 0 0)) := TF1.set (fun _ => rfl)
    have hTF := TF2
    clear RF0 RF1 BF0 BF1 TF0 TF1 TF2 R HRR
    generalize (((w2.setCell ⟨w.heap.size, 0, none⟩ (.int .i64 0)).setCell ⟨w.heap.size, 1, none⟩ (.int .i64 0)).setCell ⟨w.heap.size, 2, none⟩ (.slice none 0 0)) = Y at *
    have q0 := RF2.cell 0
    have q1 := RF2.cell 1
    have q2 := RF2.cell 2
    simp only [List.getElem?_toArray, List.getElem?_cons_succ, List.getElem?_cons_zero] at q0 q1 q2
    refine bodyPost_ret (v := .tuple #[.agg #[.int .i64 0, .int .i64 0, .slice none 0 0], .int .i64 3]) (by simp [results, Tryz.results26, go_sem, ↓IntWalk.iteOmega, *]) rfl ⟨⟨fun h => absurd h (by rw [hno]; decide), fun _ => rfl⟩, BF2⟩
  · go_wp2_with fail
    have HR := Lib.hid R
    have HB0 := Lib.hid BB0
    clear R BB0 y0
    go_loopw [18] (fun kv wr => ∃ (k : Nat) (v : Value), k ≤ n ∧ kv = .int .i64 k ∧ DS b (w.heap.size + 1) k k s3 ver nxt w2 wr v v) (fun kv _ => n - (intOf kv).toNat)
    case atStart => exact ⟨0, .slice none 0 0, Nat.zero_le _, rfl, ⟨HRS.out, HXX.out, World.ownsRow_nil _ _ _ _, Touch.refl _ _, hbl2, hGl, by omega⟩⟩
    case round =>
    obtain ⟨k, v, hkl, rfl, D⟩ := hrel
    have hw2r := D.tou.size
    by_cases hkt : k < n
    · have q5 : (k : Int) < (n : Int) := by omega
      obtain ⟨z, hz'⟩ : ∃ z, z = znD (zS k s3) := ⟨_, rfl⟩
      have HZ := Lib.hid hz'
      obtain ⟨Av, cv9, hv9, _, _, _⟩ := own_slice D.own
      obtain ⟨nv, hnv⟩ : ∃ x, x = k := ⟨_, rfl⟩
      rw [← hnv] at hv9
      subst hv9
      have hwk : IntKind.i64.wrap ((k : Int) + 1) = (k : Int) + 1 := by rw [IntKind.wrap_i64]; omega
      have D := D.fresh (Below.refl wr.heap.size wr).drew
      have HTZ := drTakeZone b (zS k s3) wr.drew D.rs
      rw [← hz'] at HTZ
      simp only [znA] at HTZ
      clear hz' hnv
      go_wp2_with fail
      refine wp_region_held_drew (S := (fun _ => True)) (by kernel_rfl) trivial (fun hHeld => ?_)
      refine wpAnyH_take (i := 0) (oi := ⟨some 20, _, _, _, _, _⟩) (v := ?v0d_1) rfl (by kernel_rfl) (by kernel_rfl) (by kernel_rfl) (fun _ _ _ h => h) (Or.inl ⟨by rfl, ?y0d_1⟩) (by assumption) ?r0d_1
      case y0d_1 => (intro w hSw; (try dsimp only at hSw); (try go_split_ands); go_simp); (try with_reducible rfl)
      case r0d_1 =>
      (try simp only [Act.put, List.setIfInBounds_toArray, List.set_cons_zero, List.set_cons_succ])
      refine wpAnyH_take (i := 2) (oi := ⟨some 22, _, _, _, _, _⟩) (v := ?v2d_4) rfl (by kernel_rfl) (by kernel_rfl) (by kernel_rfl) (fun _ _ _ h => h) (Or.inl ⟨by rfl, ?y2d_4⟩) (by assumption) ?r2d_4
      case y2d_4 => (intro w hSw; (try dsimp only at hSw); (try go_split_ands); go_simp); (try with_reducible rfl)
      case r2d_4 =>
      (try simp only [Act.put, List.setIfInBounds_toArray, List.set_cons_zero, List.set_cons_succ])
      refine wpAnyH_ready (rs := [1, 3]) (by kernel_rfl) (by simp) ?_
      refine AllReadyH.cons (o := ⟨some 21, _, _, _, _, _⟩) rfl (fun K hK => ?_) (AllReadyH.cons (o := ⟨some 23, _, _, _, _, _⟩) rfl (fun K hK => ?_) AllReadyH.nil)
      · have d2 := D.g.cell 2
        simp only [List.getElem?_toArray, List.getElem?_cons_succ, List.getElem?_cons_zero] at d2
        go_simp
        clear d2
        refine hK.out _ _ trivial (fun hHeld => ?_)
        clear hK K
        (try simp only [Act.put, List.setIfInBounds_toArray, List.set_cons_zero, List.set_cons_succ])
        refine wpAnyH_ready (rs := [3]) (by kernel_rfl) (by simp) ?_
        refine AllReadyH.cons (o := ⟨some 23, _, _, _, _, _⟩) rfl (fun K hK => ?_) AllReadyH.nil
        go_simp
        refine HTZ.mono ?_
        rintro q x1 ⟨rfl, hrs, ht⟩
        have hx1 := ht.size
        have D := D.take hrs ht
        clear hrs ht
        go_wp2_with fail
        refine hK.out _ _ trivial (fun hHeld => ?_)
        clear hK K
        (try simp only [Act.put, List.setIfInBounds_toArray, List.set_cons_zero, List.set_cons_succ])
        refine wpAnyH_ready (rs := [4]) (by kernel_rfl) (by simp) ?_
        refine AllReadyH.cons (o := ⟨some 24, _, _, _, _, _⟩) rfl (fun K hK => ?_) AllReadyH.nil
        go_simp
        have D := D.fresh ((Below.refl _ _).alloc (Nat.le_refl _) (.cells #[.int .i64 z.id, .string z.fr, .string z.tt, .int .i64 z.ow, .int .i64 z.ep, .int .i64 z.pd, .int .i64 z.mv, .string z.ky, .int .i64 z.nw] 56))
        have HCS : Hid (Cells (x1.alloc (.cells #[.int .i64 z.id, .string z.fr, .string z.tt, .int .i64 z.ow, .int .i64 z.ep, .int .i64 z.pd, .int .i64 z.mv, .string z.ky, .int .i64 z.nw] 56)) (x1.heap.size + 1) (some ⟨x1.heap.size, 0, none⟩) 1 1 9 (znV z)) := Lib.hid ⟨rfl, (fun e => by cases e), fun k u hu => ⟨_, _, rfl, by omega, by rw [Nat.zero_add, (Whl.new (w := x1) (t := 56) (cs := #[.int .i64 z.id, .string z.fr, .string z.tt, .int .i64 z.ow, .int .i64 z.ep, .int .i64 z.pd, .int .i64 z.mv, .string z.ky, .int .i64 z.nw]) (n := x1.heap.size) rfl).cell]; simpa [znV] using hu⟩⟩
        refine hK.out _ _ trivial (fun hHeld => ?_)
        clear hK K
        (try simp only [Act.put, List.setIfInBounds_toArray, List.set_cons_zero, List.set_cons_succ])
        refine wpAnyH_ready (rs := [5]) (by kernel_rfl) (by simp) ?_
        refine AllReadyH.cons (o := ⟨some 25, _, _, _, _, _⟩) rfl (fun K hK => ?_) AllReadyH.nil
        refine step_append_cells rfl (.tmp 21) (.tmp 24) 22 rfl w2.heap.size 56 i0 _ 9 96 Tryz.underlying22 hi0 hz0 hz1 hz2 rfl (by decide) (.slice Av nv cv9) k (flatZ (zL k s3)) rfl D.own (x1.heap.size + 1) (some ⟨x1.heap.size, 0, none⟩) 1 1 (znV z) rfl HCS.out (fun u hu => flatZ_one [z] u (by simpa [flatZ] using hu)) (by unfold maxLen; omega) (by omega) (by have := D.tou.size; (try simp at this ⊢); omega) ?_
        intro v5 x5 ho5 ht5 hv5
        obtain ⟨A5, c5, hv6, _, _, _⟩ := own_slice ho5
        subst hv6
        have D := D.app HZ.out ho5 ht5
        clear ho5 ht5 hv5
        refine hK.out _ _ trivial (fun hHeld => ?_)
        clear hK K
        (try simp only [Act.put, List.setIfInBounds_toArray, List.set_cons_zero, List.set_cons_succ])
        refine wpAnyH_take (i := 6) (oi := ⟨some 26, _, _, _, _, _⟩) (v := ?v6d_47) rfl (by kernel_rfl) (by kernel_rfl) (by kernel_rfl) (fun _ _ _ h => h) (Or.inl ⟨by rfl, ?y6d_47⟩) (by assumption) ?r6d_47
        case y6d_47 => (intro w hSw; (try dsimp only at hSw); (try go_split_ands); go_simp); (try with_reducible rfl)
        case r6d_47 =>
        (try simp only [Act.put, List.setIfInBounds_toArray, List.set_cons_zero, List.set_cons_succ])
        refine wpAnyH_ready (rs := [7]) (by kernel_rfl) (by simp) ?_
        refine AllReadyH.cons (o := ⟨none, _, _, _, _, _⟩) rfl (fun K hK => ?_) AllReadyH.nil
        have d2 := D.g.cell 2
        simp only [List.getElem?_toArray, List.getElem?_cons_succ, List.getElem?_cons_zero] at d2
        have f2 := D.g.free 2
        go_simp
        clear d2 f2
        refine hK.out _ _ trivial (fun hHeld => ?_)
        clear hK K
        (try simp only [Act.put, List.setIfInBounds_toArray, List.set_cons_zero, List.set_cons_succ])
        refine wpAnyH_done (by kernel_rfl) ?_ _
        go_wp2_with fail
        exact ⟨⟨k + 1, _, by omega, by go_num, D.store⟩, measZ hkt⟩
      · go_simp
        refine HTZ.mono ?_
        rintro q x1 ⟨rfl, hrs, ht⟩
        have hx1 := ht.size
        have D := D.take hrs ht
        clear hrs ht
        go_wp2_with fail
        refine hK.out _ _ trivial (fun hHeld => ?_)
        clear hK K
        (try simp only [Act.put, List.setIfInBounds_toArray, List.set_cons_zero, List.set_cons_succ])
        refine wpAnyH_ready (rs := [1, 4]) (by kernel_rfl) (by simp) ?_
        refine AllReadyH.cons (o := ⟨some 21, _, _, _, _, _⟩) rfl (fun K hK => ?_) (AllReadyH.cons (o := ⟨some 24, _, _, _, _, _⟩) rfl (fun K hK => ?_) AllReadyH.nil)
        · have d2 := D.g.cell 2
          simp only [List.getElem?_toArray, List.getElem?_cons_succ, List.getElem?_cons_zero] at d2
          go_simp
          clear d2
          refine hK.out _ _ trivial (fun hHeld => ?_)
          clear hK K
          (try simp only [Act.put, List.setIfInBounds_toArray, List.set_cons_zero, List.set_cons_succ])
          refine wpAnyH_ready (rs := [4]) (by kernel_rfl) (by simp) ?_
          refine AllReadyH.cons (o := ⟨some 24, _, _, _, _, _⟩) rfl (fun K hK => ?_) AllReadyH.nil
          go_simp
          have D := D.fresh ((Below.refl _ _).alloc (Nat.le_refl _) (.cells #[.int .i64 z.id, .string z.fr, .string z.tt, .int .i64 z.ow, .int .i64 z.ep, .int .i64 z.pd, .int .i64 z.mv, .string z.ky, .int .i64 z.nw] 56))
          have HCS : Hid (Cells (x1.alloc (.cells #[.int .i64 z.id, .string z.fr, .string z.tt, .int .i64 z.ow, .int .i64 z.ep, .int .i64 z.pd, .int .i64 z.mv, .string z.ky, .int .i64 z.nw] 56)) (x1.heap.size + 1) (some ⟨x1.heap.size, 0, none⟩) 1 1 9 (znV z)) := Lib.hid ⟨rfl, (fun e => by cases e), fun k u hu => ⟨_, _, rfl, by omega, by rw [Nat.zero_add, (Whl.new (w := x1) (t := 56) (cs := #[.int .i64 z.id, .string z.fr, .string z.tt, .int .i64 z.ow, .int .i64 z.ep, .int .i64 z.pd, .int .i64 z.mv, .string z.ky, .int .i64 z.nw]) (n := x1.heap.size) rfl).cell]; simpa [znV] using hu⟩⟩
          refine hK.out _ _ trivial (fun hHeld => ?_)
          clear hK K
          (try simp only [Act.put, List.setIfInBounds_toArray, List.set_cons_zero, List.set_cons_succ])
          refine wpAnyH_ready (rs := [5]) (by kernel_rfl) (by simp) ?_
          refine AllReadyH.cons (o := ⟨some 25, _, _, _, _, _⟩) rfl (fun K hK => ?_) AllReadyH.nil
          refine step_append_cells rfl (.tmp 21) (.tmp 24) 22 rfl w2.heap.size 56 i0 _ 9 96 Tryz.underlying22 hi0 hz0 hz1 hz2 rfl (by decide) (.slice Av nv cv9) k (flatZ (zL k s3)) rfl D.own (x1.heap.size + 1) (some ⟨x1.heap.size, 0, none⟩) 1 1 (znV z) rfl HCS.out (fun u hu => flatZ_one [z] u (by simpa [flatZ] using hu)) (by unfold maxLen; omega) (by omega) (by have := D.tou.size; (try simp at this ⊢); omega) ?_
          intro v5 x5 ho5 ht5 hv5
          obtain ⟨A5, c5, hv6, _, _, _⟩ := own_slice ho5
          subst hv6
          have D := D.app HZ.out ho5 ht5
          clear ho5 ht5 hv5
          refine hK.out _ _ trivial (fun hHeld => ?_)
          clear hK K
          (try simp only [Act.put, List.setIfInBounds_toArray, List.set_cons_zero, List.set_cons_succ])
          refine wpAnyH_take (i := 6) (oi := ⟨some 26, _, _, _, _, _⟩) (v := ?v6d_101) rfl (by kernel_rfl) (by kernel_rfl) (by kernel_rfl) (fun _ _ _ h => h) (Or.inl ⟨by rfl, ?y6d_101⟩) (by assumption) ?r6d_101
          case y6d_101 => (intro w hSw; (try dsimp only at hSw); (try go_split_ands); go_simp); (try with_reducible rfl)
          case r6d_101 =>
          (try simp only [Act.put, List.setIfInBounds_toArray, List.set_cons_zero, List.set_cons_succ])
          refine wpAnyH_ready (rs := [7]) (by kernel_rfl) (by simp) ?_
          refine AllReadyH.cons (o := ⟨none, _, _, _, _, _⟩) rfl (fun K hK => ?_) AllReadyH.nil
          have d2 := D.g.cell 2
          simp only [List.getElem?_toArray, List.getElem?_cons_succ, List.getElem?_cons_zero] at d2
          have f2 := D.g.free 2
          go_simp
          clear d2 f2
          refine hK.out _ _ trivial (fun hHeld => ?_)
          clear hK K
          (try simp only [Act.put, List.setIfInBounds_toArray, List.set_cons_zero, List.set_cons_succ])
          refine wpAnyH_done (by kernel_rfl) ?_ _
          go_wp2_with fail
          exact ⟨⟨k + 1, _, by omega, by go_num, D.store⟩, measZ hkt⟩
        · go_simp
          have D := D.fresh ((Below.refl _ _).alloc (Nat.le_refl _) (.cells #[.int .i64 z.id, .string z.fr, .string z.tt, .int .i64 z.ow, .int .i64 z.ep, .int .i64 z.pd, .int .i64 z.mv, .string z.ky, .int .i64 z.nw] 56))
          have HCS : Hid (Cells (x1.alloc (.cells #[.int .i64 z.id, .string z.fr, .string z.tt, .int .i64 z.ow, .int .i64 z.ep, .int .i64 z.pd, .int .i64 z.mv, .string z.ky, .int .i64 z.nw] 56)) (x1.heap.size + 1) (some ⟨x1.heap.size, 0, none⟩) 1 1 9 (znV z)) := Lib.hid ⟨rfl, (fun e => by cases e), fun k u hu => ⟨_, _, rfl, by omega, by rw [Nat.zero_add, (Whl.new (w := x1) (t := 56) (cs := #[.int .i64 z.id, .string z.fr, .string z.tt, .int .i64 z.ow, .int .i64 z.ep, .int .i64 z.pd, .int .i64 z.mv, .string z.ky, .int .i64 z.nw]) (n := x1.heap.size) rfl).cell]; simpa [znV] using hu⟩⟩
          refine hK.out _ _ trivial (fun hHeld => ?_)
          clear hK K
          (try simp only [Act.put, List.setIfInBounds_toArray, List.set_cons_zero, List.set_cons_succ])
          refine wpAnyH_ready (rs := [1]) (by kernel_rfl) (by simp) ?_
          refine AllReadyH.cons (o := ⟨some 21, _, _, _, _, _⟩) rfl (fun K hK => ?_) AllReadyH.nil
          have d2 := D.g.cell 2
          simp only [List.getElem?_toArray, List.getElem?_cons_succ, List.getElem?_cons_zero] at d2
          go_simp
          clear d2
          refine hK.out _ _ trivial (fun hHeld => ?_)
          clear hK K
          (try simp only [Act.put, List.setIfInBounds_toArray, List.set_cons_zero, List.set_cons_succ])
          refine wpAnyH_ready (rs := [5]) (by kernel_rfl) (by simp) ?_
          refine AllReadyH.cons (o := ⟨some 25, _, _, _, _, _⟩) rfl (fun K hK => ?_) AllReadyH.nil
          refine step_append_cells rfl (.tmp 21) (.tmp 24) 22 rfl w2.heap.size 56 i0 _ 9 96 Tryz.underlying22 hi0 hz0 hz1 hz2 rfl (by decide) (.slice Av nv cv9) k (flatZ (zL k s3)) rfl D.own (x1.heap.size + 1) (some ⟨x1.heap.size, 0, none⟩) 1 1 (znV z) rfl HCS.out (fun u hu => flatZ_one [z] u (by simpa [flatZ] using hu)) (by unfold maxLen; omega) (by omega) (by have := D.tou.size; (try simp at this ⊢); omega) ?_
          intro v5 x5 ho5 ht5 hv5
          obtain ⟨A5, c5, hv6, _, _, _⟩ := own_slice ho5
          subst hv6
          have D := D.app HZ.out ho5 ht5
          clear ho5 ht5 hv5
          refine hK.out _ _ trivial (fun hHeld => ?_)
          clear hK K
          (try simp only [Act.put, List.setIfInBounds_toArray, List.set_cons_zero, List.set_cons_succ])
          refine wpAnyH_take (i := 6) (oi := ⟨some 26, _, _, _, _, _⟩) (v := ?v6d_143) rfl (by kernel_rfl) (by kernel_rfl) (by kernel_rfl) (fun _ _ _ h => h) (Or.inl ⟨by rfl, ?y6d_143⟩) (by assumption) ?r6d_143
          case y6d_143 => (intro w hSw; (try dsimp only at hSw); (try go_split_ands); go_simp); (try with_reducible rfl)
          case r6d_143 =>
          (try simp only [Act.put, List.setIfInBounds_toArray, List.set_cons_zero, List.set_cons_succ])
          refine wpAnyH_ready (rs := [7]) (by kernel_rfl) (by simp) ?_
          refine AllReadyH.cons (o := ⟨none, _, _, _, _, _⟩) rfl (fun K hK => ?_) AllReadyH.nil
          have d2 := D.g.cell 2
          simp only [List.getElem?_toArray, List.getElem?_cons_succ, List.getElem?_cons_zero] at d2
          have f2 := D.g.free 2
          go_simp
          clear d2 f2
          refine hK.out _ _ trivial (fun hHeld => ?_)
          clear hK K
          (try simp only [Act.put, List.setIfInBounds_toArray, List.set_cons_zero, List.set_cons_succ])
          refine wpAnyH_done (by kernel_rfl) ?_ _
          go_wp2_with fail
          exact ⟨⟨k + 1, _, by omega, by go_num, D.store⟩, measZ hkt⟩
    · obtain rfl : n = k := by omega
      have R := HR.out.tou D.tou (by omega)
      have BB : Below w.heap.size w wr := HB0.out.trans (D.tou.below (by omega) (by omega))
      have hs3 := HS3.out
      have hn2 := HN2.out
      subst hs3
      subst hn2
      have HD := Lib.hid D
      obtain ⟨A9, n9, c9, hv9⟩ : ∃ A n c, v = .slice A n c := by obtain ⟨A, c, h, _⟩ := own_slice D.own; exact ⟨A, _, c, h⟩
      subst hv9
      clear D
      go_wp2_with fail
      refine (octAll _ _ _ HD.out.rs).mono ?_
      rintro e w5 ⟨rfl, rfl⟩
      cases hall : allOf (zS (mN (some xs)) (mS (some xs)))
      · have hno : mOk (some xs) = false := by unfold mOk; rw [hall]; rfl
        have r0 := R.cell 0
        have r1 := R.cell 1
        have r2 := R.cell 2
        simp only [List.getElem?_toArray, List.getElem?_cons_succ, List.getElem?_cons_zero] at r0 r1 r2
        have f0 := R.free 0
        have f1 := R.free 1
        have f2 := R.free 2
        have HRR := Lib.hid R
        clear R
        go_wp2_with fail
        have R := HRR.out
        clear r0 f0 r1 f1 r2 f2
        have RF0 : Whl (wr.setCell ⟨w.heap.size, 0, none⟩ (.int .i64 0)) w.heap.size 24 #[.int .i64 0, .int .i64 0, .slice none 0 0] := Whl.set R 0 (.int .i64 0)
        have BF0 : Below w.heap.size w (wr.setCell ⟨w.heap.size, 0, none⟩ (.int .i64 0)) := BB.setCell (Nat.le_refl _) _
        have TF0 : Touch (fun q => q = w.heap.size) wr (wr.setCell ⟨w.heap.size, 0, none⟩ (.int .i64 0)) := (Touch.refl (fun q => q = w.heap.size) wr).set (fun _ => rfl)
        have RF1 : Whl ((wr.setCell ⟨w.heap.size, 0, none⟩ (.int .i64 0)).setCell ⟨w.heap.size, 1, none⟩ (.int .i64 0)) w.heap.size 24 #[.int .i64 0, .int .i64 0, .slice none 0 0] := Whl.set RF0 1 (.int .i64 0)
        have BF1 : Below w.heap.size w ((wr.setCell ⟨w.heap.size, 0, none⟩ (.int .i64 0)).setCell ⟨w.heap.size, 1, none⟩ (.int .i64 0)) := BF0.setCell (Nat.le_refl _) _
        have TF1 : Touch (fun q => q = w.heap.size) wr ((wr.setCell ⟨w.heap.size, 0, none⟩ (.int .i64 0)).setCell ⟨w.heap.size, 1, none⟩ (.int .i64 0)) := TF0.set (fun _ => rfl)
        have RF2 : Whl (((wr.setCell ⟨w.heap.size, 0, none⟩ (.int .i64 0)).setCell ⟨w.heap.size, 1, none⟩ (.int .i64 0)).setCell ⟨w.heap.size, 2, none⟩ (.slice none 0 0)) w.heap.size 24 #[.int .i64 0, .int .i64 0, .slice none 0 0] := Whl.set RF1 2 (.slice none 0 0)
        have BF2 : Below w.heap.size w (((wr.setCell ⟨w.heap.size, 0, none⟩ (.int .i64 0)).setCell ⟨w.heap.size, 1, none⟩ (.int .i64 0)).setCell ⟨w.heap.size, 2, none⟩ (.slice none 0 0)) := BF1.setCell (Nat.le_refl _) _
        have TF2 : Touch (fun q => q = w.heap.size) wr (((wr.setCell ⟨w.heap.size, 0, none⟩ (.int .i64 0)).setCell ⟨w.heap.size, 1, none⟩ (.int .i64 0)).setCell ⟨w.heap.size, 2, none⟩ (.slice none 0 0)) := TF1.set (fun _ => rfl)
        have hTF := TF2
        clear RF0 RF1 BF0 BF1 TF0 TF1 TF2 R HRR
        generalize (((wr.setCell ⟨w.heap.size, 0, none⟩ (.int .i64 0)).setCell ⟨w.heap.size, 1, none⟩ (.int .i64 0)).setCell ⟨w.heap.size, 2, none⟩ (.slice none 0 0)) = Y at *
        have q0 := RF2.cell 0
        have q1 := RF2.cell 1
        have q2 := RF2.cell 2
        simp only [List.getElem?_toArray, List.getElem?_cons_succ, List.getElem?_cons_zero] at q0 q1 q2
        refine bodyPost_ret (v := .tuple #[.agg #[.int .i64 0, .int .i64 0, .slice none 0 0], .int .i64 3]) (by simp [results, Tryz.results26, go_sem, ↓IntWalk.iteOmega, *]) rfl ⟨⟨fun h => absurd h (by rw [hno]; decide), fun _ => rfl⟩, BF2⟩
      · have HALL := Lib.hid hall
        have D := HD.out
        have d0 := D.g.cell 0
        have d1 := D.g.cell 1
        have d2 := D.g.cell 2
        simp only [List.getElem?_toArray, List.getElem?_cons_succ, List.getElem?_cons_zero] at d0 d1 d2
        clear D
        go_wp2_with fail
        clear d0 d1 d2
        have hown := HD.out.own
        have hm : mD (some xs) = ⟨ver, nxt, zL (mN (some xs)) (mS (some xs))⟩ := by rw [HV.out, HNX.out]; rfl
        have hl : (mD (some xs)).zs.length = mN (some xs) := by rw [hm]; exact zL_len _ _
        have hown2 : wr.ownsRow w2.heap.size 56 9 (.slice A9 n9 c9) (mD (some xs)).zs.length (flatZ (mD (some xs)).zs) := by rw [hl, hm]; exact hown
        have HOW := Lib.hid hown2
        have hmk : mOk (some xs) = mayB (mD (some xs)) := by unfold mOk; rw [HALL.out]; rfl
        have HMK := Lib.hid hmk
        have HMD := Lib.hid hm
        have hle : (mD (some xs)).zs.length ≤ 1000 := by omega
        have hcall := drMayMap _ (.slice A9 n9 c9) (mD (some xs)) wr hown2 hle (mayB_iff _)
        have e1 : (mD (some xs)).ver = ver := by rw [hm]
        have e2 : (mD (some xs)).nxt = nxt := by rw [hm]
        rw [e1, e2] at hcall
        have HE1 := Lib.hid e1
        have HE2 := Lib.hid e2
        clear hown hown2 hm hl hmk hle e1 e2
        refine hcall.mono ?_
        clear hcall
        rintro e w6 ⟨rfl, hb6⟩
        have hs6 := hb6.size
        have B8 : Below w.heap.size w w6 := BB.trans (hb6.mono (by omega))
        replace R := R.below hb6 R.low
        have D := HD.out.fresh hb6
        cases hp : mayB (mD (some xs))
        · have hno : mOk (some xs) = false := by rw [HMK.out, hp]
          clear D
          have r0 := R.cell 0
          have r1 := R.cell 1
          have r2 := R.cell 2
          simp only [List.getElem?_toArray, List.getElem?_cons_succ, List.getElem?_cons_zero] at r0 r1 r2
          have f0 := R.free 0
          have f1 := R.free 1
          have f2 := R.free 2
          have HRR := Lib.hid R
          clear R
          go_wp2_with fail
          have R := HRR.out
          clear r0 f0 r1 f1 r2 f2
          have RF0 : Whl (w6.setCell ⟨w.heap.size, 0, none⟩ (.int .i64 0)) w.heap.size 24 #[.int .i64 0, .int .i64 0, .slice none 0 0] := Whl.set R 0 (.int .i64 0)
          have BF0 : Below w.heap.size w (w6.setCell ⟨w.heap.size, 0, none⟩ (.int .i64 0)) := B8.setCell (Nat.le_refl _) _
          have TF0 : Touch (fun q => q = w.heap.size) w6 (w6.setCell ⟨w.heap.size, 0, none⟩ (.int .i64 0)) := (Touch.refl (fun q => q = w.heap.size) w6).set (fun _ => rfl)
          have RF1 : Whl ((w6.setCell ⟨w.heap.size, 0, none⟩ (.int .i64 0)).setCell ⟨w.heap.size, 1, none⟩ (.int .i64 0)) w.heap.size 24 #[.int .i64 0, .int .i64 0, .slice none 0 0] := Whl.set RF0 1 (.int .i64 0)
          have BF1 : Below w.heap.size w ((w6.setCell ⟨w.heap.size, 0, none⟩ (.int .i64 0)).setCell ⟨w.heap.size, 1, none⟩ (.int .i64 0)) := BF0.setCell (Nat.le_refl _) _
          have TF1 : Touch (fun q => q = w.heap.size) w6 ((w6.setCell ⟨w.heap.size, 0, none⟩ (.int .i64 0)).setCell ⟨w.heap.size, 1, none⟩ (.int .i64 0)) := TF0.set (fun _ => rfl)
          have RF2 : Whl (((w6.setCell ⟨w.heap.size, 0, none⟩ (.int .i64 0)).setCell ⟨w.heap.size, 1, none⟩ (.int .i64 0)).setCell ⟨w.heap.size, 2, none⟩ (.slice none 0 0)) w.heap.size 24 #[.int .i64 0, .int .i64 0, .slice none 0 0] := Whl.set RF1 2 (.slice none 0 0)
          have BF2 : Below w.heap.size w (((w6.setCell ⟨w.heap.size, 0, none⟩ (.int .i64 0)).setCell ⟨w.heap.size, 1, none⟩ (.int .i64 0)).setCell ⟨w.heap.size, 2, none⟩ (.slice none 0 0)) := BF1.setCell (Nat.le_refl _) _
          have TF2 : Touch (fun q => q = w.heap.size) w6 (((w6.setCell ⟨w.heap.size, 0, none⟩ (.int .i64 0)).setCell ⟨w.heap.size, 1, none⟩ (.int .i64 0)).setCell ⟨w.heap.size, 2, none⟩ (.slice none 0 0)) := TF1.set (fun _ => rfl)
          have hTF := TF2
          clear RF0 RF1 BF0 BF1 TF0 TF1 TF2 R HRR
          generalize (((w6.setCell ⟨w.heap.size, 0, none⟩ (.int .i64 0)).setCell ⟨w.heap.size, 1, none⟩ (.int .i64 0)).setCell ⟨w.heap.size, 2, none⟩ (.slice none 0 0)) = Y at *
          have q0 := RF2.cell 0
          have q1 := RF2.cell 1
          have q2 := RF2.cell 2
          simp only [List.getElem?_toArray, List.getElem?_cons_succ, List.getElem?_cons_zero] at q0 q1 q2
          refine bodyPost_ret (v := .tuple #[.agg #[.int .i64 0, .int .i64 0, .slice none 0 0], .int .i64 3]) (by simp [results, Tryz.results26, go_sem, ↓IntWalk.iteOmega, *]) rfl ⟨⟨fun h => absurd h (by rw [hno]; decide), fun _ => rfl⟩, BF2⟩
        · have hyes : mOk (some xs) = true := by rw [HMK.out, hp]
          have HOW6 := Lib.hid (row_below HOW.out hb6)
          have d0 := D.g.cell 0
          have d1 := D.g.cell 1
          have d2 := D.g.cell 2
          simp only [List.getElem?_toArray, List.getElem?_cons_succ, List.getElem?_cons_zero] at d0 d1 d2
          clear D
          have r0 := R.cell 0
          have r1 := R.cell 1
          have r2 := R.cell 2
          simp only [List.getElem?_toArray, List.getElem?_cons_succ, List.getElem?_cons_zero] at r0 r1 r2
          have f0 := R.free 0
          have f1 := R.free 1
          have f2 := R.free 2
          have HRR := Lib.hid R
          clear R
          go_wp2_with fail
          have R := HRR.out
          clear r0 f0 r1 f1 r2 f2
          have RF0 : Whl (w6.setCell ⟨w.heap.size, 0, none⟩ (.int .i64 ver)) w.heap.size 24 #[.int .i64 ver, .int .i64 0, .slice none 0 0] := Whl.set R 0 (.int .i64 ver)
          have BF0 : Below w.heap.size w (w6.setCell ⟨w.heap.size, 0, none⟩ (.int .i64 ver)) := B8.setCell (Nat.le_refl _) _
          have TF0 : Touch (fun q => q = w.heap.size) w6 (w6.setCell ⟨w.heap.size, 0, none⟩ (.int .i64 ver)) := (Touch.refl (fun q => q = w.heap.size) w6).set (fun _ => rfl)
          have RF1 : Whl ((w6.setCell ⟨w.heap.size, 0, none⟩ (.int .i64 ver)).setCell ⟨w.heap.size, 1, none⟩ (.int .i64 nxt)) w.heap.size 24 #[.int .i64 ver, .int .i64 nxt, .slice none 0 0] := Whl.set RF0 1 (.int .i64 nxt)
          have BF1 : Below w.heap.size w ((w6.setCell ⟨w.heap.size, 0, none⟩ (.int .i64 ver)).setCell ⟨w.heap.size, 1, none⟩ (.int .i64 nxt)) := BF0.setCell (Nat.le_refl _) _
          have TF1 : Touch (fun q => q = w.heap.size) w6 ((w6.setCell ⟨w.heap.size, 0, none⟩ (.int .i64 ver)).setCell ⟨w.heap.size, 1, none⟩ (.int .i64 nxt)) := TF0.set (fun _ => rfl)
          have RF2 : Whl (((w6.setCell ⟨w.heap.size, 0, none⟩ (.int .i64 ver)).setCell ⟨w.heap.size, 1, none⟩ (.int .i64 nxt)).setCell ⟨w.heap.size, 2, none⟩ (.slice A9 n9 c9)) w.heap.size 24 #[.int .i64 ver, .int .i64 nxt, .slice A9 n9 c9] := Whl.set RF1 2 (.slice A9 n9 c9)
          have BF2 : Below w.heap.size w (((w6.setCell ⟨w.heap.size, 0, none⟩ (.int .i64 ver)).setCell ⟨w.heap.size, 1, none⟩ (.int .i64 nxt)).setCell ⟨w.heap.size, 2, none⟩ (.slice A9 n9 c9)) := BF1.setCell (Nat.le_refl _) _
          have TF2 : Touch (fun q => q = w.heap.size) w6 (((w6.setCell ⟨w.heap.size, 0, none⟩ (.int .i64 ver)).setCell ⟨w.heap.size, 1, none⟩ (.int .i64 nxt)).setCell ⟨w.heap.size, 2, none⟩ (.slice A9 n9 c9)) := TF1.set (fun _ => rfl)
          have hTF := TF2
          clear RF0 RF1 BF0 BF1 TF0 TF1 TF2 R HRR
          generalize (((w6.setCell ⟨w.heap.size, 0, none⟩ (.int .i64 ver)).setCell ⟨w.heap.size, 1, none⟩ (.int .i64 nxt)).setCell ⟨w.heap.size, 2, none⟩ (.slice A9 n9 c9)) = Y at *
          have q0 := RF2.cell 0
          have q1 := RF2.cell 1
          have q2 := RF2.cell 2
          simp only [List.getElem?_toArray, List.getElem?_cons_succ, List.getElem?_cons_zero] at q0 q1 q2
          refine bodyPost_ret (v := .tuple #[.agg #[.int .i64 ver, .int .i64 nxt, .slice A9 n9 c9], .int .i64 0]) (by simp [results, Tryz.results26, go_sem, ↓IntWalk.iteOmega, *]) rfl ⟨⟨fun _ => ⟨.slice A9 n9 c9, by rw [HE1.out, HE2.out], (hTF.own HOW6.out (fun q hq e => by have := (HOW.out.lt q hq).1; omega)).mono (by omega)⟩, fun h => absurd h (by rw [hyes]; decide)⟩, BF2⟩
end Go.Proofs.YtepjehcmiofehaaGreat
