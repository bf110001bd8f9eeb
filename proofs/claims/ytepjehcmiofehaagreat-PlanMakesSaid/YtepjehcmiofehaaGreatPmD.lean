/- the document's plan: next. -/
import Derived.Test.YtepjehcmiofehaaGreatPmC
namespace Go.Proofs.YtepjehcmiofehaaGreat
open Go.RowKit
set_option linter.unusedVariables false
set_option linter.unusedSimpArgs false

/-- of the first zones -/
def NextPre (ps : List Pz) (id : Int) (i : Nat) (r : Int) : Prop := (r = -1 ∧ ∀ j (hj : j < ps.length), j < i → ps[j].z.id ≤ id) ∨ ∃ k : Nat, r = k ∧ k < i ∧ ∃ hk : k < ps.length, id < ps[k].z.id ∧ ∀ j (hj : j < ps.length), j < i → id < ps[j].z.id → ps[k].z.id ≤ ps[j].z.id
theorem NextPre.all {ps : List Pz} {id r : Int} (h : NextPre ps id ps.length r) : NextP ps id r := by
  rcases h with ⟨e, h⟩ | ⟨k, e, _, hk, h1, h2⟩
  · exact .inl ⟨e, fun j hj => h j hj hj⟩
  · exact .inr ⟨k, e, hk, h1, fun j hj hl => h2 j hj hj hl⟩
theorem NextPre.skip {ps : List Pz} {id r : Int} {i : Nat} (h : NextPre ps id i r) (hi : i < ps.length) (hx : (ps[i].z.id ≤ id) ∨ ∃ k : Nat, r = k ∧ ∃ hk : k < ps.length, ps[k].z.id ≤ ps[i].z.id) : NextPre ps id (i + 1) r := by
  rcases h with ⟨e, h⟩ | ⟨k, e, hki, hk, h1, h2⟩
  · refine .inl ⟨e, fun j hj hji => ?_⟩
    by_cases ej : j = i
    · subst ej
      rcases hx with hx | ⟨k, ek, hk, hx⟩
      · exact hx
      · omega
    · exact h j hj (by omega)
  · refine .inr ⟨k, e, by omega, hk, h1, fun j hj hji hl => ?_⟩
    by_cases ej : j = i
    · subst ej
      rcases hx with hx | ⟨k2, ek, hk2, hx⟩
      · omega
      · obtain rfl : k = k2 := by omega
        exact hx
    · exact h2 j hj (by omega) hl
theorem NextPre.take {ps : List Pz} {id r : Int} {i : Nat} (h : NextPre ps id i r) (hi : i < ps.length) (h1 : id < ps[i].z.id) (hx : r = -1 ∨ ∃ k : Nat, r = k ∧ ∃ hk : k < ps.length, ps[i].z.id < ps[k].z.id) : NextPre ps id (i + 1) i := by
  refine .inr ⟨i, rfl, by omega, hi, h1, fun j hj hji hl => ?_⟩
  by_cases ej : j = i
  · subst ej; exact Int.le_refl _
  · rcases h with ⟨e, h⟩ | ⟨k, e, hki, hk, h3, h2⟩
    · have := h j hj (by omega); omega
    · have := h2 j hj (by omega) hl
      rcases hx with hx | ⟨k2, ek, hk2, hx⟩
      · omega
      · obtain rfl : k = k2 := by omega
        omega
set_option maxHeartbeats 4000000 in
set_option maxRecDepth 10000 in
theorem rsNext (B x : Nat) (c : Rc) (nv ov tv : Value) (nm : List Bool) (ps : List Pz) (cs : List Ch) (mv id : Int) (w : World) (h : RsH w B x c nv ov tv nm ps cs mv) :
    Calls Tryz.prog 38 #[.pointer (some ⟨x, 0, none⟩), .int .i64 id] w fun e w' => ∃ r, e = .returned (.int .i64 r) ∧ Hid (NextP ps id r) ∧ Below w.heap.size w w' := by
  have HR := Lib.hid h
  have hxw := h.blk.low
  obtain ⟨hl1, hl16, hps, -⟩ := h.len
  obtain ⟨k2, -, -, -, -, -, -⟩ := h.cells
  have HK := Lib.hid k2
  have HPS := Lib.hid hps
  clear h k2 hps
  go_enter Tryz.func38, Tryz.ntmps38
  go_wp2_with fail
  go_loopw [5, 6] (fun rv iv wr => ∃ (i : Nat) (r : Int), i ≤ c.m.zs.length ∧ iv = .int .i64 i ∧ rv = .int .i64 r ∧ Hid (NextPre ps id i r) ∧ Below w.heap.size w wr) (fun _ iv _ => c.m.zs.length - (intOf iv).toNat)
  case atStart => exact ⟨0, -1, Nat.zero_le _, rfl, rfl, Lib.hid (.inl ⟨rfl, fun j _ h => by omega⟩), Below.refl _ _⟩
  case round =>
    obtain ⟨i, r, hil, rfl, rfl, HN, hBw⟩ := hrel
    have HBW := Lib.hid hBw
    have k2 := bkeep hBw HK.out hxw
    by_cases hlt : i < c.m.zs.length
    · have q3 : (i : Int) < (c.m.zs.length : Int) := by omega
      obtain ⟨gz, oz, hA, hgB, u0, -, -, -, -, -, -, -, -⟩ := zn_at HR.out.zr hlt
      have hip : i < ps.length := by rw [HPS.out]; exact hlt
      obtain ⟨xi, hxi⟩ : ∃ xi, xi = c.m.zs[i].id := ⟨_, rfl⟩
      rw [← hxi] at u0
      have HXI : Hid (xi = ps[i].z.id) := Lib.hid (by rw [hxi, (HR.out.lk.z i hip hlt).1])
      have hgw : gz < w.heap.size := Nat.lt_of_lt_of_le hgB HR.out.bw
      have a0 := bkeep hBw u0 hgw
      rw [hA] at k2
      clear hxi u0 hBw
      by_cases h1 : id < xi
      case neg =>
        go_wp2_with fail
        exact ⟨⟨i + 1, r, hlt, by go_num, rfl, Lib.hid (HN.out.skip hip (.inl (by rw [← HXI.out]; omega))), HBW.out⟩, measZ hlt⟩
      by_cases hr : r = -1
      · have HRR := Lib.hid hr
        subst hr
        go_wp2_with fail
        exact ⟨⟨i + 1, i, hlt, by go_num, rfl, Lib.hid (HN.out.take hip (by rw [← HXI.out]; exact h1) (.inl rfl)), HBW.out⟩, measZ hlt⟩
      obtain ⟨k, hrk, hki, hkp⟩ : ∃ k : Nat, r = k ∧ k < i ∧ k < ps.length := by
        rcases HN.out with ⟨e, _⟩ | ⟨k, e, h2, h3, _⟩
        · exact absurd e hr
        · exact ⟨k, e, h2, h3⟩
      have hkz : k < c.m.zs.length := by rw [← HPS.out]; exact hkp
      obtain ⟨gy, oy, hA2, hgB2, v0, -, -, -, -, -, -, -, -⟩ := zn_at HR.out.zr hkz
      rw [hA] at hA2
      injection hA2 with hA2
      injection hA2 with hA3 hA4
      subst hA3 hA4
      obtain ⟨xk, hxk⟩ : ∃ xk, xk = c.m.zs[k].id := ⟨_, rfl⟩
      rw [← hxk] at v0
      have HXK : Hid (xk = ps[k].z.id) := Lib.hid (by rw [hxk, (HR.out.lk.z k hkp hkz).1])
      have b0 := bkeep HBW.out v0 hgw
      have hr0 : 0 ≤ r := by omega
      have hrn : r < c.m.zs.length := by omega
      have hrt : k = r.toNat := by omega
      rw [hrt] at b0
      have HRK := Lib.hid hrk
      have hr1 : ¬ (r < 0) := by omega
      clear hxk v0 hrt hrk hr hki
      by_cases h2 : xi < xk
      · go_wp2_with fail
        exact ⟨⟨i + 1, i, hlt, by go_num, rfl, Lib.hid (HN.out.take hip (by rw [← HXI.out]; exact h1) (.inr ⟨k, HRK.out, hkp, by rw [← HXI.out, ← HXK.out]; exact h2⟩)), HBW.out⟩, measZ hlt⟩
      · go_wp2_with fail
        exact ⟨⟨i + 1, r, hlt, by go_num, rfl, Lib.hid (HN.out.skip hip (.inr ⟨k, HRK.out, hkp, by rw [← HXI.out, ← HXK.out]; omega⟩)), HBW.out⟩, measZ hlt⟩
    · have hi2 : i = ps.length := by have := HPS.out; omega
      have HNN : Hid (NextP ps id r) := Lib.hid (by have h := HN.out; rw [hi2] at h; exact h.all)
      clear hi2
      go_wp2_with fail
      go_ret
      exact ⟨r, rfl, HNN, HBW.out⟩
end Go.Proofs.YtepjehcmiofehaaGreat
