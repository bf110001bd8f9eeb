/- The law DirBytes: the walk. -/
import Derived.Test.YtbohpjinkdffhaaDbu33
import Derived.Test.YtbohpjinkdffhaaDbu39
import Derived.Test.YtbohpjinkdffhaaDbu41
namespace Go.Proofs.Ytbohpjinkdffhaa
open Go.RowKit
set_option linter.unusedVariables false
set_option linter.unusedSimpArgs false
noncomputable def mA (s : Option (List Nat)) : Mp := if mOk s = true then mD s else ⟨0, 0, []⟩
noncomputable def mE (s : Option (List Nat)) : Int := if mOk s = true then 0 else 3
theorem MapAns.one {s : Option (List Nat)} {base : Nat} {e : Ending} {w' : World} (h : MapAns s base e w') : ∃ zv, e = .returned (.tuple #[.agg #[.int .i64 (mA s).ver, .int .i64 (mA s).nxt, zv], .int .i64 (mE s)]) ∧ w'.ownsRow base 39 9 zv (mA s).zs.length (flatZ (mA s).zs) := by
  cases e1 : mOk s with
  | true =>
    obtain ⟨zv, h1, h2⟩ := h.yes e1
    unfold mA mE
    simp only [e1, if_true]
    exact ⟨zv, h1, h2⟩
  | false =>
    unfold mA mE
    simp only [e1, Bool.false_eq_true, if_false]
    exact ⟨.slice none 0 0, h.no e1, World.ownsRow_nil _ _ _ _⟩
theorem MapAns.two {s : Option (List Nat)} {base : Nat} {e : Ending} {w' : World} (h : MapAns s base e w') {M : Mp} {k : Int} (hM : M = mA s) (hk : k = mE s) : ∃ zv, e = .returned (.tuple #[.agg #[.int .i64 M.ver, .int .i64 M.nxt, zv], .int .i64 k]) ∧ w'.ownsRow base 39 9 zv M.zs.length (flatZ M.zs) := by
  subst hM hk
  exact h.one
theorem mA_len {s : Option (List Nat)} : (mA s).zs.length ≤ 16 := by
  unfold mA
  split
  · rename_i h
    unfold mOk at h
    rw [Bool.and_eq_true] at h
    have := ((mayB_iff _).1 h.2).len
    omega
  · simp
def cA (s : Option (List Nat)) : Ch := if chB s = true then chD s else ⟨0, 0, 0, 0, ⟨#[]⟩⟩
def cE (s : Option (List Nat)) : Int := if chB s = true then 0 else 3
theorem chAns_one (s : Option (List Nat)) : chAns s = .tuple #[.agg #[.int .i64 (cA s).kd, .int .i64 (cA s).zo, .int .i64 (cA s).ep, .int .i64 (cA s).mv, .string (cA s).ky], .int .i64 (cE s)] := by
  unfold chAns cA cE
  cases e1 : chB s <;> simp
theorem chAns_two {s : Option (List Nat)} {C : Ch} {k : Int} (hC : C = cA s) (hk : k = cE s) : chAns s = .tuple #[.agg #[.int .i64 C.kd, .int .i64 C.zo, .int .i64 C.ep, .int .i64 C.mv, .string C.ky], .int .i64 k] := by
  subst hC hk
  exact chAns_one s
noncomputable def cb (c : Ch) : List Nat := by classical exact if OkCh c then chBs c else []
noncomputable def ce (c : Ch) : Int := by classical exact if OkCh c then 0 else 1
theorem cb_yes {c : Ch} (h : OkCh c) : cb c = chBs c ∧ ce c = 0 := by simp [cb, ce, h]
theorem cb_no {c : Ch} (h : ¬ OkCh c) : cb c = [] ∧ ce c = 1 := by simp [cb, ce, h]
theorem drEncChangeU (c : Ch) (w : World) {ec : Int} {R : List Nat} (hec : ec = ce c) (hR : R = cb c) : Calls Try.prog 23 #[.agg #[.int .i64 c.kd, .int .i64 c.zo, .int .i64 c.ep, .int .i64 c.mv, .string c.ky]] w fun e w' => ∃ v', e = .returned (.tuple #[v', .int .i64 ec]) ∧ w'.ownsRow w.heap.size 5 1 v' R.length (flatU R) ∧ Below w.heap.size w w' := by
  subst hec hR
  by_cases h : OkCh c
  · obtain ⟨e1, e2⟩ := cb_yes h
    rw [e1, e2]
    exact drEncChange1 c w h
  · obtain ⟨e1, e2⟩ := cb_no h
    rw [e1, e2]
    exact (drEncChange0 c w h).mono fun e w' ⟨h1, h2⟩ => ⟨_, h1, World.ownsRow_nil _ _ _ _, h2⟩
theorem rdEncChangeU (c : Ch) (w : World) {ec : Int} {R : List Nat} (hec : ec = ce c) (hR : R = cb c) : Calls Try.prog 24 #[.agg #[.int .i64 c.kd, .int .i64 c.zo, .int .i64 c.ep, .int .i64 c.mv, .string c.ky]] w fun e w' => ∃ v', e = .returned (.tuple #[v', .int .i64 ec]) ∧ w'.ownsRow w.heap.size 5 1 v' R.length (flatU R) ∧ Below w.heap.size w w' := by
  subst hec hR
  by_cases h : OkCh c
  · obtain ⟨e1, e2⟩ := cb_yes h
    rw [e1, e2]
    exact rdEncChange1 c w h
  · obtain ⟨e1, e2⟩ := cb_no h
    rw [e1, e2]
    exact (rdEncChange0 c w h).mono fun e w' ⟨h1, h2⟩ => ⟨_, h1, World.ownsRow_nil _ _ _ _, h2⟩
theorem chNeq (c : Ch) (w : World) : (binOp .neq 47 (.agg #[.int .i64 c.kd, .int .i64 c.zo, .int .i64 c.ep, .int .i64 c.mv, .string c.ky]) (.agg #[.int .i64 c.kd, .int .i64 c.zo, .int .i64 c.ep, .int .i64 c.mv, .string c.ky])).run Try.prog w = .ok (.bool false) w := by
  go_simp
theorem chEql (c : Ch) (w : World) : (binOp .eql 47 (.agg #[.int .i64 c.kd, .int .i64 c.zo, .int .i64 c.ep, .int .i64 c.mv, .string c.ky]) (.agg #[.int .i64 c.kd, .int .i64 c.zo, .int .i64 c.ep, .int .i64 c.mv, .string c.ky])).run Try.prog w = .ok (.bool true) w := by
  go_simp
theorem encs_byte (l : List Int) : ∀ x ∈ encs l, x < 256 := by
  intro x hx
  simp only [encs, List.mem_flatMap] at hx
  obtain ⟨n, _, h⟩ := hx
  exact enc_byte _ x h
theorem bs_byte (s : ByteArray) : ∀ x ∈ bs s, x < 256 := by
  intro x hx
  unfold bs at hx
  obtain ⟨b, _, rfl⟩ := List.mem_map.1 hx
  exact b.toNat_lt
theorem encb_byte : ∀ (l : List (List Nat)), (∀ y ∈ l, ∀ x ∈ y, x < 256) → ∀ x ∈ encb l, x < 256 := by
  intro l h x hx
  simp only [encb, List.mem_flatMap] at hx
  obtain ⟨y, hy, hx⟩ := hx
  rcases List.mem_append.1 hx with hx | hx
  · exact enc_byte _ x hx
  · exact h y hy x hx
theorem chBs_byte (c : Ch) : ∀ x ∈ chBs c, x < 256 := by
  intro x hx
  unfold chBs at hx
  rcases List.mem_append.1 hx with hx | hx
  · exact encs_byte _ x hx
  · exact encb_byte _ (by intro y hy; simp only [List.mem_cons, List.not_mem_nil, or_false] at hy; subst hy; exact bs_byte _) x hx
theorem cb_byte (c : Ch) : ∀ x ∈ cb c, x < 256 := by
  by_cases h : OkCh c
  · rw [(cb_yes h).1]; exact chBs_byte c
  · rw [(cb_no h).1]; simp
theorem cb_len {c : Ch} (h : c.ky.size ≤ 60) : (cb c).length ≤ 10000 := by
  by_cases h2 : OkCh c
  · rw [(cb_yes h2).1]
    have h1 := encs_le [c.kd, c.zo, c.ep, c.mv] 4 (by simp)
    have h2 := encb_le1 (s := c.ky) (by omega)
    unfold chBs
    rw [List.length_append]
    omega
  · rw [(cb_no h2).1]; simp
theorem zBs_byte (z : Zn) : ∀ x ∈ zBs z, x < 256 := by
  intro x hx
  unfold zBs at hx
  simp only [List.mem_append] at hx
  rcases hx with hx | hx | hx | hx | hx
  · exact encs_byte _ x hx
  · exact encb_byte _ (by intro y hy; simp only [List.mem_cons, List.not_mem_nil, or_false] at hy; rcases hy with rfl | rfl <;> exact bs_byte _) x hx
  · exact encs_byte _ x hx
  · exact encb_byte _ (by intro y hy; simp only [List.mem_cons, List.not_mem_nil, or_false] at hy; subst hy; exact bs_byte _) x hx
  · exact encs_byte _ x hx
theorem mBs_byte (m : Mp) : ∀ x ∈ mBs m, x < 256 := by
  intro x hx
  unfold mBs at hx
  rcases List.mem_append.1 hx with hx | hx
  · exact encs_byte _ x hx
  · unfold zsBs at hx
    obtain ⟨z, _, hx⟩ := List.mem_flatMap.1 hx
    exact zBs_byte z x hx
theorem mBs_le {m : Mp} (h : SmZ m) : (mBs m).length ≤ 43000 := by
  have h1 := zsBs_take h m.zs.length
  rw [List.take_length] at h1
  have h2 := encs_le [m.ver, m.nxt, (m.zs.length : Int)] 3 (by simp)
  unfold mBs
  rw [List.length_append]
  omega
/-- the law's two boxes, and its arguments behind them -/
structure LB (w : World) (m : Mp) (A : Option Addr) (cp : Nat) (c : Ch) (B : Option Addr) (cq : Nat) (xs : List Nat) (x : World) : Prop where
  bel : Below w.heap.size w x
  pm : Whl x w.heap.size 33 #[.int .i64 m.ver, .int .i64 m.nxt, .slice A m.zs.length cp]
  pc : Whl x (w.heap.size + 1) 47 #[.int .i64 c.kd, .int .i64 c.zo, .int .i64 c.ep, .int .i64 c.mv, .string c.ky]
  row : RowZ x A cp m.zs
  hx : Cells x x.heap.size B xs.length cq 1 (flatU xs)
theorem LB.step {w x x' : World} {m : Mp} {A B : Option Addr} {cp cq : Nat} {c : Ch} {xs : List Nat} (h : LB w m A cp c B cq xs x) (hb : Below x.heap.size x x') : LB w m A cp c B cq xs x' :=
  ⟨h.bel.trans (hb.mono h.bel.size), h.pm.below hb h.pm.low, h.pc.below hb h.pc.low, h.row.below hb, cells_keep h.hx hb hb.size⟩
theorem LB.al {w x x' : World} {o : Obj} {m : Mp} {A B : Option Addr} {cp cq : Nat} {c : Ch} {xs : List Nat} (h : LB w m A cp c B cq xs x) (hb : Below (x.alloc o).heap.size (x.alloc o) x') : LB w m A cp c B cq xs x' :=
  (h.step ((Below.refl _ _).alloc (Nat.le_refl _) _)).step hb
theorem Whl.st {x x' : World} {g : Nat} {t : TypeId} {cs : Array Value} (h : Whl x g t cs) (hb : Below x.heap.size x x') : Whl x' g t cs := h.below hb h.low
theorem Whl.al {x x' : World} {o : Obj} {g : Nat} {t : TypeId} {cs : Array Value} (h : Whl x g t cs) (hb : Below (x.alloc o).heap.size (x.alloc o) x') : Whl x' g t cs := (h.alloc o).st hb
theorem Whl.nw {x x' : World} {t : TypeId} {cs : Array Value} (hb : Below (x.alloc (.cells cs t)).heap.size (x.alloc (.cells cs t)) x') : Whl x' x.heap.size t cs := (Whl.new (w := x) (t := t) (cs := cs) rfl).st hb
theorem own_cells {w : World} {base e size n c : Nat} {A : Option Addr} {xs : List Value} (h : w.ownsRow base e size (.slice A n c) n xs) : Cells w w.heap.size A n c size xs := by
  obtain ⟨A2, c2, e2, _, _, h2⟩ := row_cells h
  injection e2 with e3 e4 e5
  subst e3 e5
  exact h2
theorem row_al {x x' : World} {o : Obj} {base e size n : Nat} {v : Value} {xs : List Value} (h : x.ownsRow base e size v n xs) (hb : Below (x.alloc o).heap.size (x.alloc o) x') : x'.ownsRow base e size v n xs := row_below (row_below h ((Below.refl _ _).alloc (Nat.le_refl _) _)) hb
set_option maxHeartbeats 8000000 in
set_option maxRecDepth 10000 in
theorem walkDirBytes (A : Option Addr) (cp : Nat) (m : Mp) (c : Ch) (B : Option Addr) (cq : Nat) (xs : List Nat) (w : World) (hr : RowZ w A cp m.zs) (hcap : xs.length ≤ cq) (hcm : cq ≤ maxLen) (h256 : ∀ x ∈ xs, x < 256) (hx : Cells w w.heap.size B xs.length cq 1 (flatU xs)) :
    Calls Try.prog 6 #[.agg #[.int .i64 m.ver, .int .i64 m.nxt, .slice A m.zs.length cp], .agg #[.int .i64 c.kd, .int .i64 c.zo, .int .i64 c.ep, .int .i64 c.mv, .string c.ky], .slice B xs.length cq] w fun e w' => e = .returned (.bool true) ∧ Below w.heap.size w w' := by
  have HL0 : Hid (LB w m A cp c B cq xs ((w.alloc (.cells #[.int .i64 m.ver, .int .i64 m.nxt, .slice A m.zs.length cp] 33)).alloc (.cells #[.int .i64 c.kd, .int .i64 c.zo, .int .i64 c.ep, .int .i64 c.mv, .string c.ky] 47))) := Lib.hid (by
    have hb : Below w.heap.size w ((w.alloc (.cells #[.int .i64 m.ver, .int .i64 m.nxt, .slice A m.zs.length cp] 33)).alloc (.cells #[.int .i64 c.kd, .int .i64 c.zo, .int .i64 c.ep, .int .i64 c.mv, .string c.ky] 47)) := ((Below.refl _ _).alloc (Nat.le_refl _) _).alloc (by simp) _
    exact ⟨hb, (Whl.new rfl).alloc _, Whl.new (by simp), hr.below hb, cells_keep hx hb hb.size⟩)
  have H256 := Lib.hid h256
  clear hr hx h256
  have mm0 := HL0.out.pm.cell 0
  have mm1 := HL0.out.pm.cell 1
  have mm2 := HL0.out.pm.cell 2
  simp only [List.getElem?_toArray, List.getElem?_cons_succ, List.getElem?_cons_zero] at mm0 mm1 mm2
  by_cases hP : ¬ Lt60 m
  case pos =>
    have HB : Hid (true = false ↔ Lt60 m) := Lib.hid ⟨fun h => (by cases h), fun h => absurd h hP⟩
    go_enter Try.func6, Try.ntmps6
    go_wp2_with (first
      | (go_at_call 18; go_loud (refine (drHeavyMap A cp m _ HL0.out.row.cells HB.out).mono ?_; rintro e w1 ⟨rfl, hb1⟩; have HL1 := Lib.hid (HL0.out.step hb1); have hs1 := HL1.out.bel.size; have hsc1 := HL1.out.pc.low; clear hb1; have mm0 := HL1.out.pm.cell 0; have mm1 := HL1.out.pm.cell 1; have mm2 := HL1.out.pm.cell 2; simp only [List.getElem?_toArray, List.getElem?_cons_succ, List.getElem?_cons_zero] at mm0 mm1 mm2; have cc0 := HL1.out.pc.cell 0; have cc1 := HL1.out.pc.cell 1; have cc2 := HL1.out.pc.cell 2; have cc3 := HL1.out.pc.cell 3; have cc4 := HL1.out.pc.cell 4; simp only [List.getElem?_toArray, List.getElem?_cons_succ, List.getElem?_cons_zero] at cc0 cc1 cc2 cc3 cc4))
      | fail)
    go_ret
    exact ⟨rfl, HL1.out.bel⟩
  have hP := Classical.not_not.1 hP
  have HB : Hid (false = false ↔ Lt60 m) := Lib.hid ⟨fun _ => hP, fun _ => rfl⟩
  have HSM := Lib.hid hP.sm
  clear hP
  by_cases hk : (60 : Int) < (c.ky.size : Int)
  case pos =>
    go_enter Try.func6, Try.ntmps6
    go_wp2_with (first
      | (go_at_call 18; go_loud (refine (drHeavyMap A cp m _ HL0.out.row.cells HB.out).mono ?_; rintro e w1 ⟨rfl, hb1⟩; have HL1 := Lib.hid (HL0.out.step hb1); have hs1 := HL1.out.bel.size; have hsc1 := HL1.out.pc.low; clear hb1; have mm0 := HL1.out.pm.cell 0; have mm1 := HL1.out.pm.cell 1; have mm2 := HL1.out.pm.cell 2; simp only [List.getElem?_toArray, List.getElem?_cons_succ, List.getElem?_cons_zero] at mm0 mm1 mm2; have cc0 := HL1.out.pc.cell 0; have cc1 := HL1.out.pc.cell 1; have cc2 := HL1.out.pc.cell 2; have cc3 := HL1.out.pc.cell 3; have cc4 := HL1.out.pc.cell 4; simp only [List.getElem?_toArray, List.getElem?_cons_succ, List.getElem?_cons_zero] at cc0 cc1 cc2 cc3 cc4))
      | fail)
    go_ret
    exact ⟨rfl, HL1.out.bel⟩
  by_cases hn : (1500 : Int) < (xs.length : Int)
  case pos =>
    go_enter Try.func6, Try.ntmps6
    go_wp2_with (first
      | (go_at_call 18; go_loud (refine (drHeavyMap A cp m _ HL0.out.row.cells HB.out).mono ?_; rintro e w1 ⟨rfl, hb1⟩; have HL1 := Lib.hid (HL0.out.step hb1); have hs1 := HL1.out.bel.size; have hsc1 := HL1.out.pc.low; clear hb1; have mm0 := HL1.out.pm.cell 0; have mm1 := HL1.out.pm.cell 1; have mm2 := HL1.out.pm.cell 2; simp only [List.getElem?_toArray, List.getElem?_cons_succ, List.getElem?_cons_zero] at mm0 mm1 mm2; have cc0 := HL1.out.pc.cell 0; have cc1 := HL1.out.pc.cell 1; have cc2 := HL1.out.pc.cell 2; have cc3 := HL1.out.pc.cell 3; have cc4 := HL1.out.pc.cell 4; simp only [List.getElem?_toArray, List.getElem?_cons_succ, List.getElem?_cons_zero] at cc0 cc1 cc2 cc3 cc4))
      | fail)
    go_ret
    exact ⟨rfl, HL1.out.bel⟩
  obtain ⟨T, hT⟩ : ∃ T, T = strU (mBs m) := ⟨_, rfl⟩
  have HT := Lib.hid hT
  clear hT
  go_enter Try.func6, Try.ntmps6
  go_upto_region 3 with (first
      | (go_at_call 18; go_loud (refine (drHeavyMap A cp m _ HL0.out.row.cells HB.out).mono ?_; rintro e w1 ⟨rfl, hb1⟩; have HL1 := Lib.hid (HL0.out.step hb1); have hs1 := HL1.out.bel.size; have hsc1 := HL1.out.pc.low; clear hb1; have mm0 := HL1.out.pm.cell 0; have mm1 := HL1.out.pm.cell 1; have mm2 := HL1.out.pm.cell 2; simp only [List.getElem?_toArray, List.getElem?_cons_succ, List.getElem?_cons_zero] at mm0 mm1 mm2; have cc0 := HL1.out.pc.cell 0; have cc1 := HL1.out.pc.cell 1; have cc2 := HL1.out.pc.cell 2; have cc3 := HL1.out.pc.cell 3; have cc4 := HL1.out.pc.cell 4; simp only [List.getElem?_toArray, List.getElem?_cons_succ, List.getElem?_cons_zero] at cc0 cc1 cc2 cc3 cc4))
      | fail)
  go_cut [42] (fun bv wx => bv = .bool false ∧ LB w m A cp c B cq xs wx)
  case first =>
    go_region_with (first
      | (go_at_call 20; have hgg := HL2; clear hgg; go_loud (refine (rdEncode A cp m _ HL2.out.row.cells HSM.out).mono ?_; rintro e w3 ⟨v3, rfl, ho3, hb3⟩; have HL3 := Lib.hid (HL2.out.step hb3); have cv3 := conv_own ho3; have cv2 := conv_own (row_below HO2.out hb3); rw [← HT.out] at cv2 cv3; clear ho3 hb3))
      | (go_at_call 19; go_loud (have HLx := Lib.hid (HL1.out.step ((Below.refl _ _).drew : Below w1.heap.size w1 w1.drew)); refine (drEncode A cp m _ HLx.out.row.cells HSM.out).mono ?_; rintro e w2 ⟨v2, rfl, ho2, hb2⟩; have HL2 := Lib.hid (HLx.out.step hb2); have cv2 := conv_own ho2; rw [← HT.out] at cv2; have HO2 := Lib.hid ho2; clear ho2 hb2; have mm0 := HL2.out.pm.cell 0; have mm1 := HL2.out.pm.cell 1; have mm2 := HL2.out.pm.cell 2; simp only [List.getElem?_toArray, List.getElem?_cons_succ, List.getElem?_cons_zero] at mm0 mm1 mm2))
      | fail)
    all_goals
      go_wp2_with fail
      go_meet
      exact ⟨rfl, HL3.out⟩
  case rest =>
    obtain ⟨rfl, hcut⟩ := hcut
    have HL := Lib.hid hcut
    clear hcut HL1 HT mm0 mm1 mm2 cc0 cc1 cc2 cc3 cc4 HL0
    obtain ⟨M, hM⟩ : ∃ M, M = mA (some xs) := ⟨_, rfl⟩
    obtain ⟨k, hk⟩ : ∃ k, k = mE (some xs) := ⟨_, rfl⟩
    obtain ⟨C, hC⟩ : ∃ C, C = cA (some xs) := ⟨_, rfl⟩
    obtain ⟨j, hj⟩ : ∃ j, j = cE (some xs) := ⟨_, rfl⟩
    obtain ⟨M2, hM2⟩ : ∃ M, M = mA (some (mBs m)) := ⟨_, rfl⟩
    obtain ⟨k2, hk2⟩ : ∃ k, k = mE (some (mBs m)) := ⟨_, rfl⟩
    obtain ⟨R, hR⟩ : ∃ R, R = cb c := ⟨_, rfl⟩
    obtain ⟨ec, hec⟩ : ∃ ec, ec = ce c := ⟨_, rfl⟩
    obtain ⟨C2, hC2⟩ : ∃ C, C = cA (some R) := ⟨_, rfl⟩
    obtain ⟨j2, hj2⟩ : ∃ j, j = cE (some R) := ⟨_, rfl⟩
    obtain ⟨N, hN⟩ : ∃ N, N = mBs m := ⟨_, rfl⟩
    obtain ⟨U, hU⟩ : ∃ U, U = strU R := ⟨_, rfl⟩
    have hMl : M.zs.length ≤ 16 := by rw [hM]; exact mA_len
    have hRl : R.length ≤ 10000 := by rw [hR]; exact cb_len (by omega)
    have hRb := Lib.hid (show ∀ x ∈ R, x < 256 by rw [hR]; exact cb_byte c)
    have hNl : N.length ≤ 100000 := by rw [hN]; have := mBs_le HSM.out; omega
    have hNb := Lib.hid (show ∀ x ∈ N, x < 256 by rw [hN]; exact mBs_byte m)
    rw [← hN] at hM2 hk2
    have hM2l : M2.zs.length ≤ 16 := by rw [hM2]; exact mA_len
    have QM := Lib.hid hM; have Qk := Lib.hid hk; have QC := Lib.hid hC; have Qj := Lib.hid hj; have QM2 := Lib.hid hM2; have Qk2 := Lib.hid hk2; have QR := Lib.hid hR; have Qec := Lib.hid hec; have QC2 := Lib.hid hC2; have Qj2 := Lib.hid hj2; have QN := Lib.hid hN; have QU := Lib.hid hU
    clear hM hk hC hj hM2 hk2 hR hec hC2 hj2 hN hU
    have hne := chNeq C
    have hkn : (k != k) = false := by simp
    have hjn : (j != j) = false := by simp
    have hen : (ec != ec) = false := by simp
    go_upto_region 15 with (first
      | (go_at_call 25; have hgg := HO13; clear hgg; go_loud (refine (drDecChange A7 c7 R _ (by omega) hRb.out (own_cells (row_below HO7.out ((Below.refl _ _).alloc (Nat.le_refl _) _)))).mono ?_; rintro e w14 ⟨rfl, hb14⟩; rw [chAns_two QC2.out Qj2.out]; have HL := Lib.hid (HL.out.al hb14); have HO7 := Lib.hid (row_al HO7.out hb14); have HO13 := Lib.hid (row_al HO13.out hb14); have HP19 := Lib.hid (Whl.nw hb14); have hs14 := HL.out.bel.size; have hsc14 := HL.out.pc.low; have mm0 := HL.out.pm.cell 0; have mm1 := HL.out.pm.cell 1; have mm2 := HL.out.pm.cell 2; simp only [List.getElem?_toArray, List.getElem?_cons_succ, List.getElem?_cons_zero] at mm0 mm1 mm2; have x190 := HP19.out.cell 0; have x191 := HP19.out.cell 1; have x192 := HP19.out.cell 2; simp only [List.getElem?_toArray, List.getElem?_cons_succ, List.getElem?_cons_zero] at x190 x191 x192; have cc0 := HL.out.pc.cell 0; have cc1 := HL.out.pc.cell 1; have cc2 := HL.out.pc.cell 2; have cc3 := HL.out.pc.cell 3; have cc4 := HL.out.pc.cell 4; simp only [List.getElem?_toArray, List.getElem?_cons_succ, List.getElem?_cons_zero] at cc0 cc1 cc2 cc3 cc4; have hl19 := HP19.out.low; clear hb14))
      | (go_at_call 21; have hgg := HO12; clear hgg; go_loud (refine (drDecode A12 c12 N _ hNl hNb.out (own_cells HO12.out)).mono ?_; rintro e w13 ⟨hm13, hb13⟩; obtain ⟨z13, rfl, ho13⟩ := hm13.two QM2.out Qk2.out; obtain ⟨A13, c13, rfl, -, -, -⟩ := row_cells ho13; have HL := Lib.hid (HL.out.step hb13); have HO7 := Lib.hid (row_below HO7.out hb13); have HO12 := Lib.hid (row_below HO12.out hb13); have HO13 := Lib.hid (ho13); have hs13 := HL.out.bel.size; have hsc13 := HL.out.pc.low; skip; clear hb13))
      | (go_at_call 19; go_loud (refine (drEncode A cp m _ HL.out.row.cells HSM.out).mono ?_; rintro e w12 ⟨v12, rfl, ho12, hb12⟩; rw [← QN.out] at ho12; obtain ⟨A12, c12, rfl, -, -, -⟩ := row_cells ho12; have HL := Lib.hid (HL.out.step hb12); have HO7 := Lib.hid (row_below HO7.out hb12); have HO12 := Lib.hid (ho12); have hs12 := HL.out.bel.size; have hsc12 := HL.out.pc.low; skip; clear hb12))
      | (go_at_call 27; go_loud (refine (drMaps M.ver M.nxt M.zs _ _ _ _ _ (row_below HO5.out ((Below.refl _ _).alloc (Nat.le_refl _) _)) (row_below HO6.out ((Below.refl _ _).alloc (Nat.le_refl _) _)) (by omega)).mono ?_; rintro e w11 ⟨rfl, hb11⟩; skip; have HL := Lib.hid (HL.out.al hb11); have HO5 := Lib.hid (row_al HO5.out hb11); have HO6 := Lib.hid (row_al HO6.out hb11); have HP7 := Lib.hid (HP7.out.al hb11); have HO7 := Lib.hid (row_al HO7.out hb11); have HP9 := Lib.hid (HP9.out.al hb11); have HO8 := Lib.hid (row_al HO8.out hb11); have HP15 := Lib.hid (HP15.out.al hb11); have HP17 := Lib.hid (Whl.nw hb11); have hs11 := HL.out.bel.size; have hsc11 := HL.out.pc.low; have x150 := HP15.out.cell 0; have x151 := HP15.out.cell 1; have x152 := HP15.out.cell 2; have x153 := HP15.out.cell 3; have x154 := HP15.out.cell 4; simp only [List.getElem?_toArray, List.getElem?_cons_succ, List.getElem?_cons_zero] at x150 x151 x152 x153 x154; have x170 := HP17.out.cell 0; have x171 := HP17.out.cell 1; have x172 := HP17.out.cell 2; have x173 := HP17.out.cell 3; have x174 := HP17.out.cell 4; simp only [List.getElem?_toArray, List.getElem?_cons_succ, List.getElem?_cons_zero] at x170 x171 x172 x173 x174; have mm0 := HL.out.pm.cell 0; have mm1 := HL.out.pm.cell 1; have mm2 := HL.out.pm.cell 2; simp only [List.getElem?_toArray, List.getElem?_cons_succ, List.getElem?_cons_zero] at mm0 mm1 mm2; have cv7 := conv_own HO7.out; have cv8 := conv_own HO8.out; rw [← QU.out] at cv7 cv8; clear hb11))
      | (go_at_call 26; go_loud (refine (rdDecChange B cq xs _ (by omega) hcap hcm H256.out (HL.out.step ((Below.refl _ _).alloc (Nat.le_refl _) _)).hx).mono ?_; rintro e w10 ⟨rfl, hb10⟩; rw [chAns_two QC.out Qj.out]; have HL := Lib.hid (HL.out.al hb10); have HO5 := Lib.hid (row_al HO5.out hb10); have HO6 := Lib.hid (row_al HO6.out hb10); have HP7 := Lib.hid (HP7.out.al hb10); have HO7 := Lib.hid (row_al HO7.out hb10); have HP9 := Lib.hid (HP9.out.al hb10); have HO8 := Lib.hid (row_al HO8.out hb10); have HP15 := Lib.hid (Whl.nw hb10); have hs10 := HL.out.bel.size; have hsc10 := HL.out.pc.low; have x70 := HP7.out.cell 0; have x71 := HP7.out.cell 1; have x72 := HP7.out.cell 2; simp only [List.getElem?_toArray, List.getElem?_cons_succ, List.getElem?_cons_zero] at x70 x71 x72; have x90 := HP9.out.cell 0; have x91 := HP9.out.cell 1; have x92 := HP9.out.cell 2; simp only [List.getElem?_toArray, List.getElem?_cons_succ, List.getElem?_cons_zero] at x90 x91 x92; have hl7 := HP7.out.low; have hl9 := HP9.out.low; have hl15 := HP15.out.low; clear hb10))
      | (go_at_call 25; go_loud (refine (drDecChange B cq xs _ (by omega) H256.out HL.out.hx).mono ?_; rintro e w9 ⟨rfl, hb9⟩; rw [chAns_two QC.out Qj.out]; have HL := Lib.hid (HL.out.step hb9); have HO5 := Lib.hid (row_below HO5.out hb9); have HO6 := Lib.hid (row_below HO6.out hb9); have HP7 := Lib.hid (HP7.out.st hb9); have HO7 := Lib.hid (row_below HO7.out hb9); have HP9 := Lib.hid (HP9.out.st hb9); have HO8 := Lib.hid (row_below HO8.out hb9); have hs9 := HL.out.bel.size; have hsc9 := HL.out.pc.low; skip; clear hb9))
      | (go_at_call 24; go_loud (refine (rdEncChangeU c _ Qec.out QR.out).mono ?_; rintro e w8 ⟨v8, rfl, ho8, hb8⟩; obtain ⟨A8, c8, rfl, -, -, -⟩ := row_cells ho8; have HL := Lib.hid (HL.out.step hb8); have HO5 := Lib.hid (row_below HO5.out hb8); have HO6 := Lib.hid (row_below HO6.out hb8); have HP7 := Lib.hid (HP7.out.st hb8); have HO7 := Lib.hid (row_below HO7.out hb8); have HP9 := Lib.hid (HP9.out.st hb8); have HO8 := Lib.hid (ho8); have hs8 := HL.out.bel.size; have hsc8 := HL.out.pc.low; skip; clear hb8))
      | (go_at_call 23; go_loud (refine (drEncChangeU c _ Qec.out QR.out).mono ?_; rintro e w7 ⟨v7, rfl, ho7, hb7⟩; obtain ⟨A7, c7, rfl, -, -, -⟩ := row_cells ho7; have HL := Lib.hid (HL.out.al hb7); have HO5 := Lib.hid (row_al HO5.out hb7); have HO6 := Lib.hid (row_al HO6.out hb7); have HP7 := Lib.hid (HP7.out.al hb7); have HO7 := Lib.hid (ho7); have HP9 := Lib.hid (Whl.nw hb7); have hs7 := HL.out.bel.size; have hsc7 := HL.out.pc.low; have cc0 := HL.out.pc.cell 0; have cc1 := HL.out.pc.cell 1; have cc2 := HL.out.pc.cell 2; have cc3 := HL.out.pc.cell 3; have cc4 := HL.out.pc.cell 4; simp only [List.getElem?_toArray, List.getElem?_cons_succ, List.getElem?_cons_zero] at cc0 cc1 cc2 cc3 cc4; clear hb7))
      | (go_at_call 22; go_loud (refine (rdDecode B cq xs _ (by omega) hcap hcm H256.out (HL.out.step ((Below.refl _ _).alloc (Nat.le_refl _) _)).hx).mono ?_; rintro e w6 ⟨hm6, hb6⟩; obtain ⟨z6, rfl, ho6⟩ := hm6.two QM.out Qk.out; obtain ⟨A6, c6, rfl, -, -, -⟩ := row_cells ho6; have HL := Lib.hid (HL.out.al hb6); have HO5 := Lib.hid (row_al HO5.out hb6); have HO6 := Lib.hid (ho6); have HP7 := Lib.hid (Whl.nw hb6); have hs6 := HL.out.bel.size; have hsc6 := HL.out.pc.low; have cc0 := HL.out.pc.cell 0; have cc1 := HL.out.pc.cell 1; have cc2 := HL.out.pc.cell 2; have cc3 := HL.out.pc.cell 3; have cc4 := HL.out.pc.cell 4; simp only [List.getElem?_toArray, List.getElem?_cons_succ, List.getElem?_cons_zero] at cc0 cc1 cc2 cc3 cc4; clear hb6))
      | (go_at_call 21; go_loud (refine (drDecode B cq xs _ (by omega) H256.out HL.out.hx).mono ?_; rintro e w5 ⟨hm5, hb5⟩; obtain ⟨z5, rfl, ho5⟩ := hm5.two QM.out Qk.out; obtain ⟨A5, c5, rfl, -, -, -⟩ := row_cells ho5; have HL := Lib.hid (HL.out.step hb5); have HO5 := Lib.hid (ho5); have hs5 := HL.out.bel.size; have hsc5 := HL.out.pc.low; skip; clear hb5))
      | fail)
    by_cases hP : MayP m
    case pos =>
      have HPb : Hid (true = true ↔ MayP m) := Lib.hid ⟨fun _ => hP, fun _ => rfl⟩
      have hml : m.zs.length ≤ 1000 := by have := HSM.out.len; omega
      have hml2 : m.zs.length ≤ 100000 := by omega
      obtain ⟨y1, y2⟩ := mp_back hP HSM.out
      obtain rfl : m = M2 := by rw [QM2.out, QN.out, mA, if_pos y1, y2]
      obtain rfl : 0 = k2 := by rw [Qk2.out, QN.out, mE, if_pos y1]
      clear hP
      by_cases hO : OkCh c
      case pos =>
        obtain ⟨y3, y4⟩ := ch_back hO
        obtain rfl : 0 = ec := by rw [Qec.out, (cb_yes hO).2]
        obtain rfl : 0 = j2 := by rw [Qj2.out, QR.out, (cb_yes hO).1, cE, if_pos y3]
        obtain rfl : c = C2 := by rw [QC2.out, QR.out, (cb_yes hO).1, cA, if_pos y3, y4]
        have hql := chEql c
        go_wp2_with (first
          | (go_at_call 11; go_loud (refine (drKnown _).mono ?_; rintro e w17 ⟨rfl, hb17⟩; skip; have HL := Lib.hid (HL.out.step hb17); have HP19 := Lib.hid (HP19.out.st hb17); have HP21 := Lib.hid (HP21.out.st hb17); have hs17 := HL.out.bel.size; have hsc17 := HL.out.pc.low; skip; clear hb17))
          | (go_at_call 27; go_loud (obtain ⟨A14, c14, ez, HZ0⟩ := RowZ.of (n := 0) HO13.out; obtain ⟨rfl, rfl⟩ : A13 = A14 ∧ c13 = c14 := (by injection ez with e1 _ e3; exact ⟨e1, e3⟩); refine (drMapsC m.ver m.nxt m.zs _ A _ cp _ HZ0 HL.out.row hml2).mono ?_; rintro e w16 ⟨rfl, hb16⟩; skip; have HL := Lib.hid (HL.out.step hb16); have HP19 := Lib.hid (HP19.out.st hb16); have HP21 := Lib.hid (HP21.out.st hb16); have hs16 := HL.out.bel.size; have hsc16 := HL.out.pc.low; have x210 := HP21.out.cell 0; have x211 := HP21.out.cell 1; have x212 := HP21.out.cell 2; have x213 := HP21.out.cell 3; have x214 := HP21.out.cell 4; simp only [List.getElem?_toArray, List.getElem?_cons_succ, List.getElem?_cons_zero] at x210 x211 x212 x213 x214; have cc0 := HL.out.pc.cell 0; have cc1 := HL.out.pc.cell 1; have cc2 := HL.out.pc.cell 2; have cc3 := HL.out.pc.cell 3; have cc4 := HL.out.pc.cell 4; simp only [List.getElem?_toArray, List.getElem?_cons_succ, List.getElem?_cons_zero] at cc0 cc1 cc2 cc3 cc4; clear hb16))
          | (go_at_call 28; go_loud (refine (rdMayC A cp m _ (HL.out.row.alloc _) hml HPb.out).mono ?_; rintro e w15 ⟨rfl, hb15⟩; skip; have HL := Lib.hid (HL.out.al hb15); have HO13 := Lib.hid (row_al HO13.out hb15); have HP19 := Lib.hid (HP19.out.al hb15); have HP21 := Lib.hid (Whl.nw hb15); have hs15 := HL.out.bel.size; have hsc15 := HL.out.pc.low; have mm0 := HL.out.pm.cell 0; have mm1 := HL.out.pm.cell 1; have mm2 := HL.out.pm.cell 2; simp only [List.getElem?_toArray, List.getElem?_cons_succ, List.getElem?_cons_zero] at mm0 mm1 mm2; have x190 := HP19.out.cell 0; have x191 := HP19.out.cell 1; have x192 := HP19.out.cell 2; simp only [List.getElem?_toArray, List.getElem?_cons_succ, List.getElem?_cons_zero] at x190 x191 x192; have x210 := HP21.out.cell 0; have x211 := HP21.out.cell 1; have x212 := HP21.out.cell 2; have x213 := HP21.out.cell 3; have x214 := HP21.out.cell 4; simp only [List.getElem?_toArray, List.getElem?_cons_succ, List.getElem?_cons_zero] at x210 x211 x212 x213 x214; have cc0 := HL.out.pc.cell 0; have cc1 := HL.out.pc.cell 1; have cc2 := HL.out.pc.cell 2; have cc3 := HL.out.pc.cell 3; have cc4 := HL.out.pc.cell 4; simp only [List.getElem?_toArray, List.getElem?_cons_succ, List.getElem?_cons_zero] at cc0 cc1 cc2 cc3 cc4; clear hb15))
          | fail)
        go_ret
        exact ⟨rfl, HL.out.bel⟩
      case neg =>
        obtain rfl : 1 = ec := by rw [Qec.out, (cb_no hO).2]
        go_wp2_with (first
          | (go_at_call 11; go_loud (refine (drKnown _).mono ?_; rintro e w17 ⟨rfl, hb17⟩; skip; have HL := Lib.hid (HL.out.step hb17); have HP19 := Lib.hid (HP19.out.st hb17); have HP21 := Lib.hid (HP21.out.st hb17); have hs17 := HL.out.bel.size; have hsc17 := HL.out.pc.low; skip; clear hb17))
          | (go_at_call 27; go_loud (obtain ⟨A14, c14, ez, HZ0⟩ := RowZ.of (n := 0) HO13.out; obtain ⟨rfl, rfl⟩ : A13 = A14 ∧ c13 = c14 := (by injection ez with e1 _ e3; exact ⟨e1, e3⟩); refine (drMapsC m.ver m.nxt m.zs _ A _ cp _ HZ0 HL.out.row hml2).mono ?_; rintro e w16 ⟨rfl, hb16⟩; skip; have HL := Lib.hid (HL.out.step hb16); have HP19 := Lib.hid (HP19.out.st hb16); have HP21 := Lib.hid (HP21.out.st hb16); have hs16 := HL.out.bel.size; have hsc16 := HL.out.pc.low; have x210 := HP21.out.cell 0; have x211 := HP21.out.cell 1; have x212 := HP21.out.cell 2; have x213 := HP21.out.cell 3; have x214 := HP21.out.cell 4; simp only [List.getElem?_toArray, List.getElem?_cons_succ, List.getElem?_cons_zero] at x210 x211 x212 x213 x214; have cc0 := HL.out.pc.cell 0; have cc1 := HL.out.pc.cell 1; have cc2 := HL.out.pc.cell 2; have cc3 := HL.out.pc.cell 3; have cc4 := HL.out.pc.cell 4; simp only [List.getElem?_toArray, List.getElem?_cons_succ, List.getElem?_cons_zero] at cc0 cc1 cc2 cc3 cc4; clear hb16))
          | (go_at_call 28; go_loud (refine (rdMayC A cp m _ (HL.out.row.alloc _) hml HPb.out).mono ?_; rintro e w15 ⟨rfl, hb15⟩; skip; have HL := Lib.hid (HL.out.al hb15); have HO13 := Lib.hid (row_al HO13.out hb15); have HP19 := Lib.hid (HP19.out.al hb15); have HP21 := Lib.hid (Whl.nw hb15); have hs15 := HL.out.bel.size; have hsc15 := HL.out.pc.low; have mm0 := HL.out.pm.cell 0; have mm1 := HL.out.pm.cell 1; have mm2 := HL.out.pm.cell 2; simp only [List.getElem?_toArray, List.getElem?_cons_succ, List.getElem?_cons_zero] at mm0 mm1 mm2; have x190 := HP19.out.cell 0; have x191 := HP19.out.cell 1; have x192 := HP19.out.cell 2; simp only [List.getElem?_toArray, List.getElem?_cons_succ, List.getElem?_cons_zero] at x190 x191 x192; have x210 := HP21.out.cell 0; have x211 := HP21.out.cell 1; have x212 := HP21.out.cell 2; have x213 := HP21.out.cell 3; have x214 := HP21.out.cell 4; simp only [List.getElem?_toArray, List.getElem?_cons_succ, List.getElem?_cons_zero] at x210 x211 x212 x213 x214; have cc0 := HL.out.pc.cell 0; have cc1 := HL.out.pc.cell 1; have cc2 := HL.out.pc.cell 2; have cc3 := HL.out.pc.cell 3; have cc4 := HL.out.pc.cell 4; simp only [List.getElem?_toArray, List.getElem?_cons_succ, List.getElem?_cons_zero] at cc0 cc1 cc2 cc3 cc4; clear hb15))
          | fail)
        go_ret
        exact ⟨rfl, HL.out.bel⟩
    case neg =>
      have HPb : Hid (false = true ↔ MayP m) := Lib.hid ⟨fun h => (by cases h), fun h => absurd h hP⟩
      have hml : m.zs.length ≤ 1000 := by have := HSM.out.len; omega
      have hml2 : m.zs.length ≤ 100000 := by omega
      clear hP
      by_cases hO : OkCh c
      case pos =>
        obtain ⟨y3, y4⟩ := ch_back hO
        obtain rfl : 0 = ec := by rw [Qec.out, (cb_yes hO).2]
        obtain rfl : 0 = j2 := by rw [Qj2.out, QR.out, (cb_yes hO).1, cE, if_pos y3]
        obtain rfl : c = C2 := by rw [QC2.out, QR.out, (cb_yes hO).1, cA, if_pos y3, y4]
        have hql := chEql c
        go_wp2_with (first
          | (go_at_call 11; go_loud (refine (drKnown _).mono ?_; rintro e w17 ⟨rfl, hb17⟩; skip; have HL := Lib.hid (HL.out.step hb17); have HO13 := Lib.hid (row_below HO13.out hb17); have HP19 := Lib.hid (HP19.out.st hb17); have HP21 := Lib.hid (HP21.out.st hb17); have hs17 := HL.out.bel.size; have hsc17 := HL.out.pc.low; skip; clear hb17))
          | (go_at_call 28; go_loud (refine (rdMayC A cp m _ (HL.out.row.alloc _) hml HPb.out).mono ?_; rintro e w15 ⟨rfl, hb15⟩; skip; have HL := Lib.hid (HL.out.al hb15); have HO13 := Lib.hid (row_al HO13.out hb15); have HP19 := Lib.hid (HP19.out.al hb15); have HP21 := Lib.hid (Whl.nw hb15); have hs15 := HL.out.bel.size; have hsc15 := HL.out.pc.low; have mm0 := HL.out.pm.cell 0; have mm1 := HL.out.pm.cell 1; have mm2 := HL.out.pm.cell 2; simp only [List.getElem?_toArray, List.getElem?_cons_succ, List.getElem?_cons_zero] at mm0 mm1 mm2; have x190 := HP19.out.cell 0; have x191 := HP19.out.cell 1; have x192 := HP19.out.cell 2; simp only [List.getElem?_toArray, List.getElem?_cons_succ, List.getElem?_cons_zero] at x190 x191 x192; have x210 := HP21.out.cell 0; have x211 := HP21.out.cell 1; have x212 := HP21.out.cell 2; have x213 := HP21.out.cell 3; have x214 := HP21.out.cell 4; simp only [List.getElem?_toArray, List.getElem?_cons_succ, List.getElem?_cons_zero] at x210 x211 x212 x213 x214; have cc0 := HL.out.pc.cell 0; have cc1 := HL.out.pc.cell 1; have cc2 := HL.out.pc.cell 2; have cc3 := HL.out.pc.cell 3; have cc4 := HL.out.pc.cell 4; simp only [List.getElem?_toArray, List.getElem?_cons_succ, List.getElem?_cons_zero] at cc0 cc1 cc2 cc3 cc4; clear hb15))
          | fail)
        go_ret
        exact ⟨rfl, HL.out.bel⟩
      case neg =>
        obtain rfl : 1 = ec := by rw [Qec.out, (cb_no hO).2]
        go_wp2_with (first
          | (go_at_call 11; go_loud (refine (drKnown _).mono ?_; rintro e w17 ⟨rfl, hb17⟩; skip; have HL := Lib.hid (HL.out.step hb17); have HO13 := Lib.hid (row_below HO13.out hb17); have HP19 := Lib.hid (HP19.out.st hb17); have HP21 := Lib.hid (HP21.out.st hb17); have hs17 := HL.out.bel.size; have hsc17 := HL.out.pc.low; skip; clear hb17))
          | (go_at_call 28; go_loud (refine (rdMayC A cp m _ (HL.out.row.alloc _) hml HPb.out).mono ?_; rintro e w15 ⟨rfl, hb15⟩; skip; have HL := Lib.hid (HL.out.al hb15); have HO13 := Lib.hid (row_al HO13.out hb15); have HP19 := Lib.hid (HP19.out.al hb15); have HP21 := Lib.hid (Whl.nw hb15); have hs15 := HL.out.bel.size; have hsc15 := HL.out.pc.low; have mm0 := HL.out.pm.cell 0; have mm1 := HL.out.pm.cell 1; have mm2 := HL.out.pm.cell 2; simp only [List.getElem?_toArray, List.getElem?_cons_succ, List.getElem?_cons_zero] at mm0 mm1 mm2; have x190 := HP19.out.cell 0; have x191 := HP19.out.cell 1; have x192 := HP19.out.cell 2; simp only [List.getElem?_toArray, List.getElem?_cons_succ, List.getElem?_cons_zero] at x190 x191 x192; have x210 := HP21.out.cell 0; have x211 := HP21.out.cell 1; have x212 := HP21.out.cell 2; have x213 := HP21.out.cell 3; have x214 := HP21.out.cell 4; simp only [List.getElem?_toArray, List.getElem?_cons_succ, List.getElem?_cons_zero] at x210 x211 x212 x213 x214; have cc0 := HL.out.pc.cell 0; have cc1 := HL.out.pc.cell 1; have cc2 := HL.out.pc.cell 2; have cc3 := HL.out.pc.cell 3; have cc4 := HL.out.pc.cell 4; simp only [List.getElem?_toArray, List.getElem?_cons_succ, List.getElem?_cons_zero] at cc0 cc1 cc2 cc3 cc4; clear hb15))
          | fail)
        go_ret
        exact ⟨rfl, HL.out.bel⟩
end Go.Proofs.Ytbohpjinkdffhaa
