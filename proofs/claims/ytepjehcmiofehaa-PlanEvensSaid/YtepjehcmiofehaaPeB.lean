/- PlanEvens: the map and the table that the law makes. -/
import Derived.Test.YtepjehcmiofehaaPeA
import Derived.Test.YtepjehcmiofehaaPlS
namespace Go.Proofs.Ytepjehcmiofehaa
open Go.RowKit
set_option linter.unusedVariables false
set_option linter.unusedSimpArgs false

theorem and255 (z : Int) : bits .and .i64 z 255 = evH z := by
  show IntKind.i64.wrap (((BitVec.ofInt 64 z &&& BitVec.ofInt 64 255).toNat : Nat) : Int) = _
  rw [BitVec.toNat_and, BitVec.toNat_ofInt, show (BitVec.ofInt 64 255).toNat = 2 ^ 8 - 1 from rfl, Nat.and_two_pow_sub_one_eq_mod, IntKind.wrap_i64]
  unfold evH
  omega
theorem and1 (z : Int) : bits .and .i64 z 1 = z % 2 := by
  show IntKind.i64.wrap (((BitVec.ofInt 64 z &&& BitVec.ofInt 64 1).toNat : Nat) : Int) = _
  rw [BitVec.toNat_and, BitVec.toNat_ofInt, show (BitVec.ofInt 64 1).toNat = 2 ^ 1 - 1 from rfl, Nat.and_two_pow_sub_one_eq_mod, IntKind.wrap_i64]
  omega
theorem conv_one (w : World) (b x : Nat) (z : Int) (hz : z = x) (hx : x < 256) (h : w.cell? ⟨b, 0, none⟩ = some (.int .u8 z)) : (convert 47 9 (.slice (some ⟨b, 0, none⟩) 1 1)).run Try.prog w = .ok (.string ⟨#[UInt8.ofNat x]⟩) w := by
  subst hz
  have e : (⟨#[UInt8.ofNat x]⟩ : ByteArray) = strU [x] := rfl
  rw [e]
  refine run_convert_bytes_arg w _ _ Try.underlying47 Try.underlying5 b 0 _ 1 _ (by simp) (fun i hi => ?_) _ Try.underlying9
  have hi0 : i = 0 := by simp at hi; exact hi
  subst hi0
  simpa using h
set_option maxRecDepth 100000 in
theorem Try.infoLrow : (Try.prog.info? 49).map (fun i => (i.zero, i.size, i.bytes)) = some (some (.agg #[.int .i64 0, .int .i64 0, .string ⟨#[]⟩]), 3, 32) := by kernel_rfl
theorem cells_newW {w : World} {e : TypeId} {arr : Array Value} {cs : List Value} {size k : Nat} (h : arr = cs.toArray) (hl : cs.length = size) (hk : w.heap.size = k) : Cells (w.alloc (.cells arr e)) (w.alloc (.cells arr e)).heap.size (some ⟨k, 0, none⟩) 1 1 size cs := by
  subst hk
  exact cells_new h hl
theorem znV_one' (z : Zn) : ∀ u ∈ znV z, u.oneCell' = true := by
  intro u hu
  simp only [znV, List.mem_cons, List.not_mem_nil, or_false] at hu
  rcases hu with rfl | rfl | rfl | rfl | rfl | rfl | rfl | rfl | rfl <;> rfl
theorem lrV_one' (z : Lr) : ∀ u ∈ lrV z, u.oneCell' = true := by
  intro u hu
  simp only [lrV, List.mem_cons, List.not_mem_nil, or_false] at hu
  rcases hu with rfl | rfl | rfl <;> rfl
/-- the map and the table at a round: i zones, j rows -/
structure EvS (w : World) (mb n : Nat) (hits : List Int) (i j : Nat) (zv lv : Value) : Prop where
  blk : Whl w mb 24 #[.int .i64 1, .int .i64 ((n : Int) + 1), zv]
  zr : w.ownsRow mb 37 9 zv i (flatZ (evZs hits n i))
  lr : w.ownsRow mb 49 3 lv j (flatL (evL hits j))
  za : ∀ g, zv.ownBlock = some g → g ≠ mb
  la : ∀ g, lv.ownBlock = some g → g ≠ mb
  ne : ∀ g, zv.ownBlock = some g → lv.ownBlock ≠ some g
theorem EvS.alloc {w : World} {mb n : Nat} {hits : List Int} {i j : Nat} {zv lv : Value} (h : EvS w mb n hits i j zv lv) (o : Obj) : EvS (w.alloc o) mb n hits i j zv lv := ⟨h.blk.alloc o, h.zr.alloc o, h.lr.alloc o, h.za, h.la, h.ne⟩
theorem EvS.far {w : World} {mb n : Nat} {hits : List Int} {i j : Nat} {zv lv : Value} (h : EvS w mb n hits i j zv lv) {a : Addr} {v : Value} (hm : mb ≠ a.block) (hz : ∀ g, zv.ownBlock = some g → g ≠ a.block) (hl : ∀ g, lv.ownBlock = some g → g ≠ a.block) : EvS (w.setCell a v) mb n hits i j zv lv := ⟨h.blk.far hm, own_set_ne h.zr hz, own_set_ne h.lr hl, h.za, h.la, h.ne⟩
theorem EvS.keep {D : Nat → Prop} {w w' : World} {mb n : Nat} {hits : List Int} {i j : Nat} {zv lv : Value} (h : EvS w mb n hits i j zv lv) (ht : Touch D w w') (hm : ¬ D mb) (hz : ∀ g, zv.ownBlock = some g → ¬ D g) (hl : ∀ g, lv.ownBlock = some g → ¬ D g) : EvS w' mb n hits i j zv lv := ⟨(ht.block mb h.blk.low hm).trans h.blk, ht.own h.zr hz, ht.own h.lr hl, h.za, h.la, h.ne⟩
theorem EvS.drew {w : World} {mb n : Nat} {hits : List Int} {i j : Nat} {zv lv : Value} (h : EvS w mb n hits i j zv lv) : EvS w.drew mb n hits i j zv lv := h.keep (Touch.of_drew (fun _ => False) w) (fun h => h) (fun _ _ h => h) (fun _ _ h => h)
theorem EvS.below {w w' : World} {mb n : Nat} {hits : List Int} {i j : Nat} {zv lv : Value} (h : EvS w mb n hits i j zv lv) (hb : Below w.heap.size w w') : EvS w' mb n hits i j zv lv := h.keep (Touch.of_below hb) (by have := h.blk.low; omega) (fun g hg => by have := (h.zr.lt g hg).2; omega) (fun g hg => by have := (h.lr.lt g hg).2; omega)
theorem EvS.lows {w : World} {mb n : Nat} {hits : List Int} {i j : Nat} {zv lv : Value} (h : EvS w mb n hits i j zv lv) : (∀ g, zv.ownBlock = some g → mb < g ∧ g < w.heap.size) ∧ ∀ g, lv.ownBlock = some g → mb < g ∧ g < w.heap.size :=
  ⟨fun g hg => by have := h.zr.lt g hg; have := h.za g hg; omega, fun g hg => by have := h.lr.lt g hg; have := h.la g hg; omega⟩
theorem EvS.zone {w w6 : World} {mb n : Nat} {hits : List Int} {i j : Nat} {zv lv v6 : Value} {zz : Zn} (h : EvS w mb n hits i j zv lv) (ho : w6.ownsRow mb 37 9 v6 (i + 1) (flatZ (evZs hits n i) ++ znV zz)) (ht : Touch (fun k => zv.ownBlock = some k) w w6) (hb : v6.ownBlock = zv.ownBlock ∨ v6.ownBlock = some w.heap.size) (hz : zz = evZ hits n i) : EvS (w6.setCell ⟨mb, 2, none⟩ v6) mb n hits (i + 1) j v6 lv := by
  have hm := h.blk.low
  have k1 := ht.block mb hm (fun e => h.za _ e rfl)
  have hblk : Whl w6 mb 24 #[.int .i64 1, .int .i64 ((n : Int) + 1), zv] := k1.trans h.blk
  have hlr := ht.own h.lr (fun g hg e => h.ne g e hg)
  have hza : ∀ g, v6.ownBlock = some g → g ≠ mb := fun g hg => by
    rcases hb with e | e
    · exact h.za g (by rw [← e]; exact hg)
    · rw [e] at hg; injection hg with hg; omega
  have e : flatZ (evZs hits n (i + 1)) = flatZ (evZs hits n i) ++ znV zz := by rw [evZs_snoc, flatZ_app, hz]; simp [flatZ]
  refine ⟨hblk.set 2 v6, ?_, own_set_ne hlr h.la, hza, h.la, fun g hg hl => ?_⟩
  · rw [e]; exact own_set_ne ho hza
  · rcases hb with e | e
    · exact h.ne g (by rw [← e]; exact hg) hl
    · rw [e] at hg; injection hg with hg
      have := (h.lows.2 g hl).2
      omega
theorem EvS.row {w w6 : World} {mb n : Nat} {hits : List Int} {i j : Nat} {zv lv v6 : Value} {r : Lr} (h : EvS w mb n hits i j zv lv) (ho : w6.ownsRow mb 49 3 v6 (j + 1) (flatL (evL hits j) ++ lrV r)) (ht : Touch (fun k => lv.ownBlock = some k) w w6) (hb : v6.ownBlock = lv.ownBlock ∨ v6.ownBlock = some w.heap.size) (hz : r = evR hits j) : EvS w6 mb n hits i (j + 1) zv v6 := by
  have hm := h.blk.low
  have k1 := ht.block mb hm (fun e => h.la _ e rfl)
  have hza : ∀ g, v6.ownBlock = some g → g ≠ mb := fun g hg => by
    rcases hb with e | e
    · exact h.la g (by rw [← e]; exact hg)
    · rw [e] at hg; injection hg with hg; omega
  have e : flatL (evL hits (j + 1)) = flatL (evL hits j) ++ lrV r := by rw [evL_snoc, hz]; simp [flatL]
  refine ⟨k1.trans h.blk, ht.own h.zr (fun g hg e => h.ne g hg e), by rw [e]; exact ho, h.za, hza, fun g hg hl => ?_⟩
  rcases hb with e | e
  · exact h.ne g hg (by rw [← e]; exact hl)
  · rw [e] at hl; injection hl with hl
    have := (h.lows.1 g hg).2
    omega
/-- loads -/
theorem ev_x : True := trivial
theorem evLoad (hits : List Int) {n j : Nat} (hj : j < n) (g : Int) : loadP ((evPs hits n).take (j + 1)) g = loadP ((evPs hits n).take j) g + if evOw (hits.getD j 0) = g then evH (hits.getD j 0) else 0 := by
  have h : j < (evPs hits n).length := by rw [evPs_len]; exact hj
  rw [loadP_snoc h, evPs_get]
  rfl
theorem evTakeB (hits : List Int) {n : Nat} (hn : n ≤ 12) (j : Nat) (g : Int) : 0 ≤ loadP ((evPs hits n).take j) g ∧ loadP ((evPs hits n).take j) g ≤ 3060 := by
  have h := loadP_le ((evPs hits n).take j) g (fun p hp => evHits hits (EvI.init hits n) p (List.mem_of_mem_take hp))
  have : ((evPs hits n).take j).length ≤ 12 := by rw [List.length_take, evPs_len]; omega
  omega
theorem evSB {hits : List Int} {n : Nat} (hn : n ≤ 12) {ps : List Pz} (h : EvI hits n ps) (g : Int) : 0 ≤ loadP ps g ∧ loadP ps g ≤ 3060 := by
  have h1 := loadP_le ps g (evHits hits h)
  have : ps.length ≤ 12 := by rw [h.same.1, evPs_len]; exact hn
  omega
theorem evRowH (w : World) (k : Nat) (hk : k = w.heap.size) : Cells (w.alloc (.cells #[.int .i64 8, .int .i64 9, .int .i64 10] 3)) (w.alloc (.cells #[.int .i64 8, .int .i64 9, .int .i64 10] 3)).heap.size (some ⟨k, 0, none⟩) ([8, 9, 10] : List Int).length 3 1 (intsV [8, 9, 10]) := by
  subst hk
  have h : (w.alloc (.cells #[.int .i64 8, .int .i64 9, .int .i64 10] 3)).ownsRow w.heap.size 3 1 (.slice (some ⟨w.heap.size, 0, none⟩) 3 3) ([8, 9, 10] : List Int).length (intsV [8, 9, 10]) := World.ownsRow_lit w #[.int .i64 8, .int .i64 9, .int .i64 10] 3 (Nat.le_refl _) (by unfold maxLen; omega) rfl
  obtain ⟨A, c, e, _, _, hr⟩ := row_cells h
  injection e with e1 e2 e3
  subst e1 e3
  exact hr
theorem evSm (hits : List Int) {n : Nat} (hn : n ≤ 12) : SmZ (evM hits n) := by
  refine ⟨by show (evZs hits n n).length ≤ 60; rw [evZs_len]; omega, fun z hz => ?_⟩
  obtain ⟨i, _, rfl⟩ := List.mem_map.1 (show z ∈ evZs hits n n from hz)
  have h1 : (evFr i).size ≤ 1 := by unfold evFr; split <;> simp [chB, ByteArray.size]
  have h2 : (evTt n i).size ≤ 1 := by unfold evTt; split <;> simp [chB, ByteArray.size]
  have h3 : (evZ hits n i).ky.size = 0 := rfl
  have e1 : (evZ hits n i).fr = evFr i := rfl
  have e2 : (evZ hits n i).tt = evTt n i := rfl
  rw [e1, e2]
  omega
theorem evMake (gz cz gl cl gh mb : Nat) (hits : List Int) (n : Nat) (w : World) (h2 : 2 ≤ n) (h12 : n ≤ 12) (hz : w.ownsRow mb 37 9 (.slice (some ⟨gz, 0, none⟩) n cz) n (flatZ (evZs hits n n))) (hl : w.ownsRow mb 49 3 (.slice (some ⟨gl, 0, none⟩) n cl) n (flatL (evL hits n))) (hx : Cells w w.heap.size (some ⟨gh, 0, none⟩) ([8, 9, 10] : List Int).length 3 1 (intsV [8, 9, 10])) :
    Calls Try.prog 9 #[.agg #[.int .i64 1, .int .i64 ((n : Int) + 1), .slice (some ⟨gz, 0, none⟩) n cz], .slice (some ⟨gh, 0, none⟩) 3 3, .slice (some ⟨gl, 0, none⟩) n cl, .agg #[.int .i64 1073741824, .int .i64 0]] w fun e w' => ∃ v cs, e = .returned v ∧ PlanR (evM hits n) [8, 9, 10] (evL hits n) 1073741824 0 cs ∧ w'.ownsRow w.heap.size 42 5 v cs.length (cs.flatMap chV) ∧ Below w.heap.size w w' := by
  obtain ⟨A, c, e, hZ⟩ := RowZ.of (n := n) (l := evZs hits n n) (by rw [evZs_len]; exact hz)
  injection e with e1 e2 e3
  subst e1 e3
  obtain ⟨A, c, e, _, _, hL⟩ := row_cells hl
  injection e with e1 e2 e3
  subst e1 e3
  have hL2 : RowL w (some ⟨gl, 0, none⟩) cl (evL hits n) := by unfold RowL; rw [evL_len]; exact hL
  have h := plMakeYes (some ⟨gz, 0, none⟩) cz (evM hits n) (some ⟨gh, 0, none⟩) 3 [8, 9, 10] (some ⟨gl, 0, none⟩) cl (evL hits n) 1073741824 0 w hZ (evSm hits h12) hx hL2 (by rw [evL_len]; omega) (evMay hits h2 h12) (by decide)
  rw [show (evM hits n).zs.length = n from evZs_len hits n n, evL_len] at h
  exact h
theorem ch_ownE {w : World} {B g n c : Nat} {l : List Ch} (h : w.ownsRow B 42 5 (.slice (some ⟨g, 0, none⟩) n c) l.length (l.flatMap chV)) {i : Nat} (hi : i < l.length) :
    w.cell? ⟨g, i * 5, none⟩ = some (.int .i64 l[i].kd) ∧ w.cell? ⟨g, i * 5 + 1, none⟩ = some (.int .i64 l[i].zo) ∧ w.cell? ⟨g, i * 5 + 2, none⟩ = some (.int .i64 l[i].ep) ∧ w.cell? ⟨g, i * 5 + 3, none⟩ = some (.int .i64 l[i].mv) ∧ w.cell? ⟨g, i * 5 + 4, none⟩ = some (.string l[i].ky) := by
  have hc := fun k (hk : k < 5) (v : Value) (hv : (chV l[i])[k]? = some v) => h.cells (g := g) rfl (i * 5 + k) v (by rw [flat_get chV 5 (fun _ => rfl) l i k hk, List.getElem?_eq_getElem hi]; exact hv)
  refine ⟨?_, ?_, ?_, ?_, ?_⟩
  · have := hc 0 (by omega) _ rfl; rw [add_none] at this; simpa using this
  · have := hc 1 (by omega) _ rfl; rw [add_none] at this; simpa using this
  · have := hc 2 (by omega) _ rfl; rw [add_none] at this; simpa using this
  · have := hc 3 (by omega) _ rfl; rw [add_none] at this; simpa using this
  · have := hc 4 (by omega) _ rfl; rw [add_none] at this; simpa using this
set_option maxHeartbeats 8000000 in
set_option maxRecDepth 10000 in
theorem plEvensWalk (A : Option Addr) (cp : Nat) (hits : List Int) (w : World) (hx : Cells w w.heap.size A hits.length cp 1 (intsV hits)) (hlen : hits.length ≤ maxLen) :
    Calls Try.prog 4 #[.slice A hits.length cp] w fun e w' => e = .returned (.bool true) ∧ Below w.heap.size w w' := by
  have HX := Lib.hid hx
  clear hx
  obtain ⟨n, hn⟩ : ∃ n, n = hits.length := ⟨_, rfl⟩
  rw [← hn] at HX hlen ⊢
  have HN := Lib.hid hn
  clear hn
  by_cases h2 : n < 2
  · have q1 : ((n : Int) < 2) := by omega
    go_enter Try.func4, Try.ntmps4
    go_wp2_with (first
      | (go_at_call 8; go_loud (refine (plKnown _).mono ?_; rintro e w5 ⟨rfl, hb5⟩; have HB5 := Lib.hid hb5; clear hb5))
      | fail)
    go_ret
    exact ⟨rfl, HB5.out⟩
  have q1 : ¬ ((n : Int) < 2) := by omega
  by_cases h12 : 12 < n
  · have q2 : ((12 : Int) < n) := by omega
    go_enter Try.func4, Try.ntmps4
    go_wp2_with (first
      | (go_at_call 8; go_loud (refine (plKnown _).mono ?_; rintro e w5 ⟨rfl, hb5⟩; have HB5 := Lib.hid hb5; clear hb5))
      | fail)
    go_ret
    exact ⟨rfl, HB5.out⟩
  have q2 : ¬ ((12 : Int) < n) := by omega
  have hwn : IntKind.i64.wrap ((n : Int) + 1) = (n : Int) + 1 := by rw [IntKind.wrap_i64]; omega
  go_enter Try.func4, Try.ntmps4
  go_wp2_with fail
  obtain ⟨z0, hz0, hz1, hz2, hz3⟩ := info_parts Try.infoZone
  obtain ⟨r0, hr0, hr1, hr2, hr3⟩ := info_parts Try.infoLrow
  go_loopw [4, 5] (fun lv0 iv wr => ∃ (i : Nat) (zv lv : Value), lv0 = lv ∧ i ≤ n ∧ iv = .int .i64 i ∧ EvS wr w.heap.size n hits i i zv lv ∧ Below w.heap.size w wr) (fun _ iv _ => n - (intOf iv).toNat)
  case atStart => exact ⟨0, _, _, rfl, Nat.zero_le _, rfl, ⟨Whl.new rfl, World.ownsRow_nil _ _ _ _, World.ownsRow_nil _ _ _ _, fun g h => by simp [Value.ownBlock] at h, fun g h => by simp [Value.ownBlock] at h, fun g h => by simp [Value.ownBlock] at h⟩, (Below.refl _ _).alloc (Nat.le_refl _) _⟩
  case round =>
    obtain ⟨i, zv, lv, hlv, hil, rfl, hS, hBr⟩ := hrel
    have hlv := hlv.symm
    subst hlv
    have HS := Lib.hid hS
    have HBR := Lib.hid hBr
    have hsr := hS.blk.low
    obtain ⟨ii, hii⟩ : ∃ ii : Int, ii = (i : Int) := ⟨_, rfl⟩
    rw [← hii]
    have hit : i = ii.toNat := by omega
    have hil2 : 0 ≤ ii := by omega
    by_cases hlt : ii < n
    · have hlt2 : i < n := by omega
      have hwi : IntKind.i64.wrap (ii + 1) = ii + 1 := by rw [IntKind.wrap_i64]; omega
      obtain ⟨ga, oa, rfl, hga, a00⟩ := HX.out.2.2 i _ (intsV_at (by have := HN.out; omega : i < hits.length))
      obtain ⟨x, hx⟩ : ∃ x, x = hits[i]'(by have := HN.out; omega) := ⟨_, rfl⟩
      rw [← hx] at a00
      have hgd : hits.getD i 0 = x := by rw [hx, List.getD_eq_getElem?_getD, List.getElem?_eq_getElem (by have := HN.out; omega)]; rfl
      have HGD := Lib.hid hgd
      have e1 := and255 x
      have e2 := and1 (x / 256)
      obtain ⟨y, hy⟩ : ∃ y, y = x / 256 % 2 := ⟨_, rfl⟩
      obtain ⟨hh, hhh⟩ : ∃ hh, hh = evH x := ⟨_, rfl⟩
      rw [← hhh] at e1
      rw [← hy] at e2
      have hyb : y = 0 ∨ y = 1 := by omega
      have HY := Lib.hid hy
      have HHH := Lib.hid hhh
      have k2 := hS.blk.cell 2
      simp only [List.getElem?_toArray, List.getElem?_cons_succ, List.getElem?_cons_zero] at k2
      rw [hit] at a00
      have HA0 := Lib.hid a00
      have a0 := bkeep hBr a00 hga
      clear a00
      have HIT := Lib.hid hit
      have HII := Lib.hid hii
      clear hx hgd hy hhh hS hBr hit hii hil
      by_cases hi0 : 0 < ii
      case neg =>
        have q5 : ii + 1 < n := by omega
        have cv2 : (convert 47 9 (.slice (some ⟨wr.heap.size + 1, 0, none⟩) 1 1)).run Try.prog ((wr.alloc (.cells #[.int .i64 (ii + 1), .string ⟨#[]⟩, .string ⟨#[]⟩, .int .i64 (8 + y), .int .i64 1, .int .i64 0, .int .i64 0, .string ⟨#[]⟩, .int .i64 0] 37)).alloc (.cells #[.int .u8 (97 + ii + 1)] 5)) = .ok (.string (chB (i + 1))) ((wr.alloc (.cells #[.int .i64 (ii + 1), .string ⟨#[]⟩, .string ⟨#[]⟩, .int .i64 (8 + y), .int .i64 1, .int .i64 0, .int .i64 0, .string ⟨#[]⟩, .int .i64 0] 37)).alloc (.cells #[.int .u8 (97 + ii + 1)] 5)) := conv_one _ _ (97 + (i + 1)) _ (by have := HII.out; omega) (by omega) ((Whl.new (by simp)).cell 0)
        go_upto_region 13 with fail
        obtain ⟨V, hV⟩ : ∃ V, V = ((wr.alloc (.cells #[.int .i64 (ii + 1), .string ⟨#[]⟩, .string (chB (i + 1)), .int .i64 (8 + y), .int .i64 1, .int .i64 0, .int .i64 0, .string ⟨#[]⟩, .int .i64 0] 37)).alloc (.cells #[.int .u8 (97 + ii + 1)] 5)) := ⟨_, rfl⟩
        rw [← hV]
        have HWV : Hid (Whl V wr.heap.size 37 #[.int .i64 (ii + 1), .string ⟨#[]⟩, .string (chB (i + 1)), .int .i64 (8 + y), .int .i64 1, .int .i64 0, .int .i64 0, .string ⟨#[]⟩, .int .i64 0]) := Lib.hid (by rw [hV]; exact (Whl.new rfl).alloc (.cells #[.int .u8 (97 + ii + 1)] 5))
        have HSV : Hid (EvS V w.heap.size n hits i i zv lv) := Lib.hid (by rw [hV]; exact (HS.out.alloc _).alloc (.cells #[.int .u8 (97 + ii + 1)] 5))
        have HTV : Hid (Touch (fun k => False) wr V) := Lib.hid (by rw [hV]; exact ((Touch.refl _ _).alloc _).alloc (.cells #[.int .u8 (97 + ii + 1)] 5))
        have HFT : Hid (evFr i = ⟨#[]⟩ ∧ evTt n i = (chB (i + 1))) := Lib.hid ⟨by unfold evFr; rw [if_pos (by have := HII.out; omega)], by unfold evTt; rw [if_pos (by have := HII.out; omega)]⟩
        clear hV cv2
        have hNV := HWV.out.low
        have hsv : wr.heap.size ≤ V.heap.size := Nat.le_of_lt hNV
        have HBV : Hid (Below w.heap.size w V) := Lib.hid (HBR.out.trans (HTV.out.below (Nat.le_of_lt hsr) (fun k hk => hk.elim)))
        have a0V := bkeep (HTV.out.below (Nat.le_refl _) (fun k hk => hk.elim)) a0 (by omega)
        have k2V := HSV.out.blk.cell 2
        have f2V := HSV.out.blk.free 2
        have d0 := HWV.out.cell 0
        have d1 := HWV.out.cell 1
        have d2 := HWV.out.cell 2
        have d3 := HWV.out.cell 3
        have d4 := HWV.out.cell 4
        have d5 := HWV.out.cell 5
        have d6 := HWV.out.cell 6
        have d7 := HWV.out.cell 7
        have d8 := HWV.out.cell 8
        simp only [List.getElem?_toArray, List.getElem?_cons_succ, List.getElem?_cons_zero] at k2V d0 d1 d2 d3 d4 d5 d6 d7 d8
        clear a0 k2
        have HC := Lib.hid (cells_new (w := V) (e := 37) (arr := #[.int .i64 (ii + 1), .string ⟨#[]⟩, .string (chB (i + 1)), .int .i64 (8 + y), .int .i64 1, .int .i64 0, .int .i64 0, .string ⟨#[]⟩, .int .i64 0]) (cs := znV (⟨ii + 1, ⟨#[]⟩, (chB (i + 1)), 8 + y, 1, 0, 0, ⟨#[]⟩, 0⟩ : Zn)) (size := 9) rfl rfl)
        have hi12 : i < 12 := by have := HII.out; omega
        go_wp2_with (first
          | (at_builtin; go_loud (refine wpList_append_touch rfl (.tmp 65) (.tmp 67) 22 rfl w.heap.size 37 z0 (.agg #[.int .i64 0, .string ⟨#[]⟩, .string ⟨#[]⟩, .int .i64 0, .int .i64 0, .int .i64 0, .int .i64 0, .string ⟨#[]⟩, .int .i64 0]) 9 96 Try.underlying22 hz0 hz1 hz2 hz3 rfl (by decide) zv i (flatZ (evZs hits n i)) rfl (HSV.out.zr.alloc _) _ (some ⟨V.heap.size, 0, none⟩) 1 1 (znV (⟨ii + 1, ⟨#[]⟩, (chB (i + 1)), 8 + y, 1, 0, 0, ⟨#[]⟩, 0⟩ : Zn)) rfl HC.out (znV_one' _) (by unfold maxLen; omega) (by omega) (by simp; omega) ?_; intro v6 w6 hown6 ht6 hb6; have hs6 := ht6.size; have HS7 := Lib.hid ((HSV.out.alloc _).zone hown6 ht6 hb6 (by unfold evZ; rw [HFT.out.1, HFT.out.2, HGD.out, ← HII.out]; unfold evOw; rw [← HY.out])); have HB6 : Hid (Below w.heap.size w w6) := Lib.hid ((HBV.out.alloc (by omega) _).trans (ht6.below (by simp; omega) (fun k hk => by have := (HSV.out.lows.1 k hk).1; omega))); have a06 := bkeep HB6.out HA0.out hga; have m6 := (ht6.block w.heap.size (by simp; omega) (fun e => HSV.out.za _ e rfl)); have W6 : Whl w6 w.heap.size 24 #[.int .i64 1, .int .i64 ((n : Int) + 1), zv] := (m6.trans ((HSV.out.alloc _).blk)); have k26 := W6.cell 2; have f26 := W6.free 2; simp only [List.getElem?_toArray, List.getElem?_cons_succ, List.getElem?_cons_zero] at k26; have HB6s := ht6.size; obtain ⟨g6, c6, hv6, hg6, hg6l, hn6, hc6⟩ := own_form hown6 (by omega); subst hv6; have HC8 := Lib.hid (cells_newW (k := w6.heap.size) (w := w6.setCell ⟨w.heap.size, 2, none⟩ (.slice (some ⟨g6, 0, none⟩) (i + 1) c6)) (e := 49) (arr := #[.int .i64 (ii + 1), .int .i64 hh, .string ⟨#[]⟩]) (cs := lrV (⟨ii + 1, hh, ⟨#[]⟩⟩ : Lr)) (size := 3) rfl rfl (by simp)); clear W6 m6 hown6 ht6 hb6 a0V k2V f2V d0 d1 d2 d3 d4 d5 d6 d7 d8))
          | (at_builtin; go_loud (refine wpList_append_touch rfl (.tmp 70) (.tmp 79) 26 rfl w.heap.size 49 r0 (.agg #[.int .i64 0, .int .i64 0, .string ⟨#[]⟩]) 3 32 Try.underlying26 hr0 hr1 hr2 hr3 rfl (by decide) lv i (flatL (evL hits i)) rfl (HS7.out.lr.alloc _) _ (some ⟨w6.heap.size, 0, none⟩) 1 1 (lrV (⟨ii + 1, hh, ⟨#[]⟩⟩ : Lr)) rfl HC8.out (lrV_one' _) (by unfold maxLen; omega) (by omega) (by simp; omega) ?_; intro v8 w8 hown8 ht8 hb8; have HS8 := Lib.hid ((HS7.out.alloc _).row hown8 ht8 hb8 (by unfold evR; rw [HGD.out, ← HII.out, ← HHH.out])); have HB8 : Hid (Below w.heap.size w w8) := Lib.hid (((HB6.out.setCell (by show w.heap.size ≤ w.heap.size; omega) _).alloc (by simp; omega) _).trans (ht8.below (by simp; omega) (fun k hk => by have := (HS7.out.lows.2 k hk).1; omega))); clear hown8 ht8 hb8))
          | fail)
        exact ⟨⟨i + 1, _, v8, rfl, hlt2, by have := HII.out; simp; omega, HS8.out, HB8.out⟩, by have := HII.out; simp [intOf]; omega⟩
      case pos =>
        by_cases hl1 : ii + 1 < n
        case pos =>
          have cv1 : (convert 47 9 (.slice (some ⟨wr.heap.size + 1, 0, none⟩) 1 1)).run Try.prog ((wr.alloc (.cells #[.int .i64 (ii + 1), .string ⟨#[]⟩, .string ⟨#[]⟩, .int .i64 (8 + y), .int .i64 1, .int .i64 0, .int .i64 0, .string ⟨#[]⟩, .int .i64 0] 37)).alloc (.cells #[.int .u8 (97 + ii)] 5)) = .ok (.string (chB i)) ((wr.alloc (.cells #[.int .i64 (ii + 1), .string ⟨#[]⟩, .string ⟨#[]⟩, .int .i64 (8 + y), .int .i64 1, .int .i64 0, .int .i64 0, .string ⟨#[]⟩, .int .i64 0] 37)).alloc (.cells #[.int .u8 (97 + ii)] 5)) := conv_one _ _ (97 + i) _ (by have := HII.out; omega) (by omega) ((Whl.new (by simp)).cell 0)
          have cv2 : (convert 47 9 (.slice (some ⟨wr.heap.size + 1 + 1, 0, none⟩) 1 1)).run Try.prog (((wr.alloc (.cells #[.int .i64 (ii + 1), .string (chB i), .string ⟨#[]⟩, .int .i64 (8 + y), .int .i64 1, .int .i64 0, .int .i64 0, .string ⟨#[]⟩, .int .i64 0] 37)).alloc (.cells #[.int .u8 (97 + ii)] 5)).alloc (.cells #[.int .u8 (97 + ii + 1)] 5)) = .ok (.string (chB (i + 1))) (((wr.alloc (.cells #[.int .i64 (ii + 1), .string (chB i), .string ⟨#[]⟩, .int .i64 (8 + y), .int .i64 1, .int .i64 0, .int .i64 0, .string ⟨#[]⟩, .int .i64 0] 37)).alloc (.cells #[.int .u8 (97 + ii)] 5)).alloc (.cells #[.int .u8 (97 + ii + 1)] 5)) := conv_one _ _ (97 + (i + 1)) _ (by have := HII.out; omega) (by omega) ((Whl.new (by simp)).cell 0)
          go_upto_region 13 with fail
          obtain ⟨V, hV⟩ : ∃ V, V = (((wr.alloc (.cells #[.int .i64 (ii + 1), .string (chB i), .string (chB (i + 1)), .int .i64 (8 + y), .int .i64 1, .int .i64 0, .int .i64 0, .string ⟨#[]⟩, .int .i64 0] 37)).alloc (.cells #[.int .u8 (97 + ii)] 5)).alloc (.cells #[.int .u8 (97 + ii + 1)] 5)) := ⟨_, rfl⟩
          rw [← hV]
          have HWV : Hid (Whl V wr.heap.size 37 #[.int .i64 (ii + 1), .string (chB i), .string (chB (i + 1)), .int .i64 (8 + y), .int .i64 1, .int .i64 0, .int .i64 0, .string ⟨#[]⟩, .int .i64 0]) := Lib.hid (by rw [hV]; exact ((Whl.new rfl).alloc (.cells #[.int .u8 (97 + ii)] 5)).alloc (.cells #[.int .u8 (97 + ii + 1)] 5))
          have HSV : Hid (EvS V w.heap.size n hits i i zv lv) := Lib.hid (by rw [hV]; exact ((HS.out.alloc _).alloc (.cells #[.int .u8 (97 + ii)] 5)).alloc (.cells #[.int .u8 (97 + ii + 1)] 5))
          have HTV : Hid (Touch (fun k => False) wr V) := Lib.hid (by rw [hV]; exact (((Touch.refl _ _).alloc _).alloc (.cells #[.int .u8 (97 + ii)] 5)).alloc (.cells #[.int .u8 (97 + ii + 1)] 5))
          have HFT : Hid (evFr i = (chB i) ∧ evTt n i = (chB (i + 1))) := Lib.hid ⟨by unfold evFr; rw [if_neg (by have := HII.out; omega)], by unfold evTt; rw [if_pos (by have := HII.out; omega)]⟩
          clear hV cv1 cv2
          have hNV := HWV.out.low
          have hsv : wr.heap.size ≤ V.heap.size := Nat.le_of_lt hNV
          have HBV : Hid (Below w.heap.size w V) := Lib.hid (HBR.out.trans (HTV.out.below (Nat.le_of_lt hsr) (fun k hk => hk.elim)))
          have a0V := bkeep (HTV.out.below (Nat.le_refl _) (fun k hk => hk.elim)) a0 (by omega)
          have k2V := HSV.out.blk.cell 2
          have f2V := HSV.out.blk.free 2
          have d0 := HWV.out.cell 0
          have d1 := HWV.out.cell 1
          have d2 := HWV.out.cell 2
          have d3 := HWV.out.cell 3
          have d4 := HWV.out.cell 4
          have d5 := HWV.out.cell 5
          have d6 := HWV.out.cell 6
          have d7 := HWV.out.cell 7
          have d8 := HWV.out.cell 8
          simp only [List.getElem?_toArray, List.getElem?_cons_succ, List.getElem?_cons_zero] at k2V d0 d1 d2 d3 d4 d5 d6 d7 d8
          clear a0 k2
          have HC := Lib.hid (cells_new (w := V) (e := 37) (arr := #[.int .i64 (ii + 1), .string (chB i), .string (chB (i + 1)), .int .i64 (8 + y), .int .i64 1, .int .i64 0, .int .i64 0, .string ⟨#[]⟩, .int .i64 0]) (cs := znV (⟨ii + 1, (chB i), (chB (i + 1)), 8 + y, 1, 0, 0, ⟨#[]⟩, 0⟩ : Zn)) (size := 9) rfl rfl)
          have hi12 : i < 12 := by have := HII.out; omega
          go_wp2_with (first
            | (at_builtin; go_loud (refine wpList_append_touch rfl (.tmp 65) (.tmp 67) 22 rfl w.heap.size 37 z0 (.agg #[.int .i64 0, .string ⟨#[]⟩, .string ⟨#[]⟩, .int .i64 0, .int .i64 0, .int .i64 0, .int .i64 0, .string ⟨#[]⟩, .int .i64 0]) 9 96 Try.underlying22 hz0 hz1 hz2 hz3 rfl (by decide) zv i (flatZ (evZs hits n i)) rfl (HSV.out.zr.alloc _) _ (some ⟨V.heap.size, 0, none⟩) 1 1 (znV (⟨ii + 1, (chB i), (chB (i + 1)), 8 + y, 1, 0, 0, ⟨#[]⟩, 0⟩ : Zn)) rfl HC.out (znV_one' _) (by unfold maxLen; omega) (by omega) (by simp; omega) ?_; intro v6 w6 hown6 ht6 hb6; have hs6 := ht6.size; have HS7 := Lib.hid ((HSV.out.alloc _).zone hown6 ht6 hb6 (by unfold evZ; rw [HFT.out.1, HFT.out.2, HGD.out, ← HII.out]; unfold evOw; rw [← HY.out])); have HB6 : Hid (Below w.heap.size w w6) := Lib.hid ((HBV.out.alloc (by omega) _).trans (ht6.below (by simp; omega) (fun k hk => by have := (HSV.out.lows.1 k hk).1; omega))); have a06 := bkeep HB6.out HA0.out hga; have m6 := (ht6.block w.heap.size (by simp; omega) (fun e => HSV.out.za _ e rfl)); have W6 : Whl w6 w.heap.size 24 #[.int .i64 1, .int .i64 ((n : Int) + 1), zv] := (m6.trans ((HSV.out.alloc _).blk)); have k26 := W6.cell 2; have f26 := W6.free 2; simp only [List.getElem?_toArray, List.getElem?_cons_succ, List.getElem?_cons_zero] at k26; have HB6s := ht6.size; obtain ⟨g6, c6, hv6, hg6, hg6l, hn6, hc6⟩ := own_form hown6 (by omega); subst hv6; have HC8 := Lib.hid (cells_newW (k := w6.heap.size) (w := w6.setCell ⟨w.heap.size, 2, none⟩ (.slice (some ⟨g6, 0, none⟩) (i + 1) c6)) (e := 49) (arr := #[.int .i64 (ii + 1), .int .i64 hh, .string ⟨#[]⟩]) (cs := lrV (⟨ii + 1, hh, ⟨#[]⟩⟩ : Lr)) (size := 3) rfl rfl (by simp)); clear W6 m6 hown6 ht6 hb6 a0V k2V f2V d0 d1 d2 d3 d4 d5 d6 d7 d8))
            | (at_builtin; go_loud (refine wpList_append_touch rfl (.tmp 70) (.tmp 79) 26 rfl w.heap.size 49 r0 (.agg #[.int .i64 0, .int .i64 0, .string ⟨#[]⟩]) 3 32 Try.underlying26 hr0 hr1 hr2 hr3 rfl (by decide) lv i (flatL (evL hits i)) rfl (HS7.out.lr.alloc _) _ (some ⟨w6.heap.size, 0, none⟩) 1 1 (lrV (⟨ii + 1, hh, ⟨#[]⟩⟩ : Lr)) rfl HC8.out (lrV_one' _) (by unfold maxLen; omega) (by omega) (by simp; omega) ?_; intro v8 w8 hown8 ht8 hb8; have HS8 := Lib.hid ((HS7.out.alloc _).row hown8 ht8 hb8 (by unfold evR; rw [HGD.out, ← HII.out, ← HHH.out])); have HB8 : Hid (Below w.heap.size w w8) := Lib.hid (((HB6.out.setCell (by show w.heap.size ≤ w.heap.size; omega) _).alloc (by simp; omega) _).trans (ht8.below (by simp; omega) (fun k hk => by have := (HS7.out.lows.2 k hk).1; omega))); clear hown8 ht8 hb8))
            | fail)
          exact ⟨⟨i + 1, _, v8, rfl, hlt2, by have := HII.out; simp; omega, HS8.out, HB8.out⟩, by have := HII.out; simp [intOf]; omega⟩
        case neg =>
          have cv1 : (convert 47 9 (.slice (some ⟨wr.heap.size + 1, 0, none⟩) 1 1)).run Try.prog ((wr.alloc (.cells #[.int .i64 (ii + 1), .string ⟨#[]⟩, .string ⟨#[]⟩, .int .i64 (8 + y), .int .i64 1, .int .i64 0, .int .i64 0, .string ⟨#[]⟩, .int .i64 0] 37)).alloc (.cells #[.int .u8 (97 + ii)] 5)) = .ok (.string (chB i)) ((wr.alloc (.cells #[.int .i64 (ii + 1), .string ⟨#[]⟩, .string ⟨#[]⟩, .int .i64 (8 + y), .int .i64 1, .int .i64 0, .int .i64 0, .string ⟨#[]⟩, .int .i64 0] 37)).alloc (.cells #[.int .u8 (97 + ii)] 5)) := conv_one _ _ (97 + i) _ (by have := HII.out; omega) (by omega) ((Whl.new (by simp)).cell 0)
          go_upto_region 13 with fail
          obtain ⟨V, hV⟩ : ∃ V, V = ((wr.alloc (.cells #[.int .i64 (ii + 1), .string (chB i), .string ⟨#[]⟩, .int .i64 (8 + y), .int .i64 1, .int .i64 0, .int .i64 0, .string ⟨#[]⟩, .int .i64 0] 37)).alloc (.cells #[.int .u8 (97 + ii)] 5)) := ⟨_, rfl⟩
          rw [← hV]
          have HWV : Hid (Whl V wr.heap.size 37 #[.int .i64 (ii + 1), .string (chB i), .string ⟨#[]⟩, .int .i64 (8 + y), .int .i64 1, .int .i64 0, .int .i64 0, .string ⟨#[]⟩, .int .i64 0]) := Lib.hid (by rw [hV]; exact (Whl.new rfl).alloc (.cells #[.int .u8 (97 + ii)] 5))
          have HSV : Hid (EvS V w.heap.size n hits i i zv lv) := Lib.hid (by rw [hV]; exact (HS.out.alloc _).alloc (.cells #[.int .u8 (97 + ii)] 5))
          have HTV : Hid (Touch (fun k => False) wr V) := Lib.hid (by rw [hV]; exact ((Touch.refl _ _).alloc _).alloc (.cells #[.int .u8 (97 + ii)] 5))
          have HFT : Hid (evFr i = (chB i) ∧ evTt n i = ⟨#[]⟩) := Lib.hid ⟨by unfold evFr; rw [if_neg (by have := HII.out; omega)], by unfold evTt; rw [if_neg (by have := HII.out; omega)]⟩
          clear hV cv1
          have hNV := HWV.out.low
          have hsv : wr.heap.size ≤ V.heap.size := Nat.le_of_lt hNV
          have HBV : Hid (Below w.heap.size w V) := Lib.hid (HBR.out.trans (HTV.out.below (Nat.le_of_lt hsr) (fun k hk => hk.elim)))
          have a0V := bkeep (HTV.out.below (Nat.le_refl _) (fun k hk => hk.elim)) a0 (by omega)
          have k2V := HSV.out.blk.cell 2
          have f2V := HSV.out.blk.free 2
          have d0 := HWV.out.cell 0
          have d1 := HWV.out.cell 1
          have d2 := HWV.out.cell 2
          have d3 := HWV.out.cell 3
          have d4 := HWV.out.cell 4
          have d5 := HWV.out.cell 5
          have d6 := HWV.out.cell 6
          have d7 := HWV.out.cell 7
          have d8 := HWV.out.cell 8
          simp only [List.getElem?_toArray, List.getElem?_cons_succ, List.getElem?_cons_zero] at k2V d0 d1 d2 d3 d4 d5 d6 d7 d8
          clear a0 k2
          have HC := Lib.hid (cells_new (w := V) (e := 37) (arr := #[.int .i64 (ii + 1), .string (chB i), .string ⟨#[]⟩, .int .i64 (8 + y), .int .i64 1, .int .i64 0, .int .i64 0, .string ⟨#[]⟩, .int .i64 0]) (cs := znV (⟨ii + 1, (chB i), ⟨#[]⟩, 8 + y, 1, 0, 0, ⟨#[]⟩, 0⟩ : Zn)) (size := 9) rfl rfl)
          have hi12 : i < 12 := by have := HII.out; omega
          go_wp2_with (first
            | (at_builtin; go_loud (refine wpList_append_touch rfl (.tmp 65) (.tmp 67) 22 rfl w.heap.size 37 z0 (.agg #[.int .i64 0, .string ⟨#[]⟩, .string ⟨#[]⟩, .int .i64 0, .int .i64 0, .int .i64 0, .int .i64 0, .string ⟨#[]⟩, .int .i64 0]) 9 96 Try.underlying22 hz0 hz1 hz2 hz3 rfl (by decide) zv i (flatZ (evZs hits n i)) rfl (HSV.out.zr.alloc _) _ (some ⟨V.heap.size, 0, none⟩) 1 1 (znV (⟨ii + 1, (chB i), ⟨#[]⟩, 8 + y, 1, 0, 0, ⟨#[]⟩, 0⟩ : Zn)) rfl HC.out (znV_one' _) (by unfold maxLen; omega) (by omega) (by simp; omega) ?_; intro v6 w6 hown6 ht6 hb6; have hs6 := ht6.size; have HS7 := Lib.hid ((HSV.out.alloc _).zone hown6 ht6 hb6 (by unfold evZ; rw [HFT.out.1, HFT.out.2, HGD.out, ← HII.out]; unfold evOw; rw [← HY.out])); have HB6 : Hid (Below w.heap.size w w6) := Lib.hid ((HBV.out.alloc (by omega) _).trans (ht6.below (by simp; omega) (fun k hk => by have := (HSV.out.lows.1 k hk).1; omega))); have a06 := bkeep HB6.out HA0.out hga; have m6 := (ht6.block w.heap.size (by simp; omega) (fun e => HSV.out.za _ e rfl)); have W6 : Whl w6 w.heap.size 24 #[.int .i64 1, .int .i64 ((n : Int) + 1), zv] := (m6.trans ((HSV.out.alloc _).blk)); have k26 := W6.cell 2; have f26 := W6.free 2; simp only [List.getElem?_toArray, List.getElem?_cons_succ, List.getElem?_cons_zero] at k26; have HB6s := ht6.size; obtain ⟨g6, c6, hv6, hg6, hg6l, hn6, hc6⟩ := own_form hown6 (by omega); subst hv6; have HC8 := Lib.hid (cells_newW (k := w6.heap.size) (w := w6.setCell ⟨w.heap.size, 2, none⟩ (.slice (some ⟨g6, 0, none⟩) (i + 1) c6)) (e := 49) (arr := #[.int .i64 (ii + 1), .int .i64 hh, .string ⟨#[]⟩]) (cs := lrV (⟨ii + 1, hh, ⟨#[]⟩⟩ : Lr)) (size := 3) rfl rfl (by simp)); clear W6 m6 hown6 ht6 hb6 a0V k2V f2V d0 d1 d2 d3 d4 d5 d6 d7 d8))
            | (at_builtin; go_loud (refine wpList_append_touch rfl (.tmp 70) (.tmp 79) 26 rfl w.heap.size 49 r0 (.agg #[.int .i64 0, .int .i64 0, .string ⟨#[]⟩]) 3 32 Try.underlying26 hr0 hr1 hr2 hr3 rfl (by decide) lv i (flatL (evL hits i)) rfl (HS7.out.lr.alloc _) _ (some ⟨w6.heap.size, 0, none⟩) 1 1 (lrV (⟨ii + 1, hh, ⟨#[]⟩⟩ : Lr)) rfl HC8.out (lrV_one' _) (by unfold maxLen; omega) (by omega) (by simp; omega) ?_; intro v8 w8 hown8 ht8 hb8; have HS8 := Lib.hid ((HS7.out.alloc _).row hown8 ht8 hb8 (by unfold evR; rw [HGD.out, ← HII.out, ← HHH.out])); have HB8 : Hid (Below w.heap.size w w8) := Lib.hid (((HB6.out.setCell (by show w.heap.size ≤ w.heap.size; omega) _).alloc (by simp; omega) _).trans (ht8.below (by simp; omega) (fun k hk => by have := (HS7.out.lows.2 k hk).1; omega))); clear hown8 ht8 hb8))
            | fail)
          exact ⟨⟨i + 1, _, v8, rfl, hlt2, by have := HII.out; simp; omega, HS8.out, HB8.out⟩, by have := HII.out; simp [intOf]; omega⟩
    · have hin : i = n := by omega
      rw [hin] at hS
      obtain ⟨gz, cz, hzv, hgz, hgzl, hncz, hcmz⟩ := own_form hS.zr (by omega)
      subst hzv
      obtain ⟨gl, cl, hlv, hgl, hgll, hncl, hcml⟩ := own_form hS.lr (by omega)
      subst hlv
      have HS1 := Lib.hid hS
      have hii2 : ii = (n : Int) := by omega
      have HBR1 := Lib.hid HBR.out
      have hgzm : gz ≠ w.heap.size := hS.za gz rfl
      clear hS hBr hit hii hin hlt hil hil2
      subst hii2
      clear HS HBR
      obtain ⟨w1, hw1⟩ : ∃ x, x = wr := ⟨_, rfl⟩
      rw [← hw1] at HS1 HBR1 hsr hgzl hgll ⊢
      clear hw1
      go_wp2_with fail
      go_loopw [8] (fun jv wj => ∃ (j : Nat) (x8 x9 x10 : Int), j ≤ n ∧ jv = .int .i64 j ∧ Hid (x8 = loadP ((evPs hits n).take j) 8 ∧ x9 = loadP ((evPs hits n).take j) 9 ∧ x10 = loadP ((evPs hits n).take j) 10) ∧ EvS wj w.heap.size n hits n n (.slice (some ⟨gz, 0, none⟩) n cz) (.slice (some ⟨gl, 0, none⟩) n cl) ∧ Whl wj w1.heap.size 50 #[.int .i64 x8, .int .i64 x9, .int .i64 x10] ∧ Below w.heap.size w wj) (fun jv _ => n - (intOf jv).toNat)
      case atStart => exact ⟨0, 0, 0, 0, Nat.zero_le _, rfl, Lib.hid ⟨by simp [loadP], by simp [loadP], by simp [loadP]⟩, HS1.out.alloc _, Whl.new rfl, HBR1.out.alloc (by omega) _⟩
      case round =>
        obtain ⟨j, x8, x9, x10, hjl, rfl, HXX, hS, hA, hBj⟩ := hrel
        have HS2 := Lib.hid hS
        have HA2 := Lib.hid hA
        have HBJ := Lib.hid hBj
        have hb8 := evTakeB hits (n := n) (by omega) j 8
        have hb9 := evTakeB hits (n := n) (by omega) j 9
        have hb10 := evTakeB hits (n := n) (by omega) j 10
        rw [← HXX.out.1] at hb8
        rw [← HXX.out.2.1] at hb9
        rw [← HXX.out.2.2] at hb10
        by_cases hjt : j < n
        · have q7 : (j : Int) < (n : Int) := by omega
          obtain ⟨ga, oa, rfl, hga, a00⟩ := HX.out.2.2 j _ (intsV_at (by have := HN.out; omega : j < hits.length))
          obtain ⟨x, hx⟩ : ∃ x, x = hits[j]'(by have := HN.out; omega) := ⟨_, rfl⟩
          rw [← hx] at a00
          have hgd : hits.getD j 0 = x := by rw [hx, List.getD_eq_getElem?_getD, List.getElem?_eq_getElem (by have := HN.out; omega)]; rfl
          have a0 := bkeep hBj a00 hga
          have e1 := and255 x
          obtain ⟨hh, hhh⟩ : ∃ hh, hh = evH x := ⟨_, rfl⟩
          have hhb := evH_r x
          rw [← hhh] at e1 hhb
          have hz := rowZ_at (w := wr) (B := w.heap.size) (g := gz) (c := cz) (l := evZs hits n n) (by rw [evZs_len]; exact hS.zr) (i := j) (by rw [evZs_len]; exact hjt)
          obtain ⟨ow, how⟩ : ∃ ow, ow = evOw x := ⟨_, rfl⟩
          obtain ⟨-, -, -, u3, -⟩ := hz
          rw [evZs_get] at u3
          rw [show (evZ hits n j).ow = ow by rw [how, ← hgd]; rfl] at u3
          have hstep := fun g => evLoad hits hjt g
          rw [hgd, ← how, ← hhh] at hstep
          have HST := Lib.hid hstep
          have hows := evOw_r x
          rw [← how] at hows
          have k2 := hS.blk.cell 2
          have l0 := hA.cell 0
          have l1 := hA.cell 1
          have l2 := hA.cell 2
          have hfz := fun k => hA.free k
          simp only [List.getElem?_toArray, List.getElem?_cons_succ, List.getElem?_cons_zero] at k2 l0 l1 l2
          clear hx hgd hhh how hstep a00 hS hBj
          rcases hows with how8 | how8
          · have hwo : IntKind.i64.wrap (ow - 8) = 0 := by rw [IntKind.wrap_i64]; omega
            have HOW := Lib.hid how8
            clear how8
            have hwa : IntKind.i64.wrap (x8 + hh) = x8 + hh := by rw [IntKind.wrap_i64]; omega
            obtain ⟨w2, hw2⟩ : ∃ x, x = wr := ⟨_, rfl⟩
            rw [← hw2] at HS2 HA2 HBJ a0 u3 k2 l0 l1 l2 hfz ⊢
            clear hw2
            go_wp2_with fail
            go_still_tail 16, (by kernel_rfl)
            change wpList _ _ _ _ _ w2.drew
            have HSD : Hid (EvS w2.drew w.heap.size n hits n n (.slice (some ⟨gz, 0, none⟩) n cz) (.slice (some ⟨gl, 0, none⟩) n cl)) := Lib.hid HS2.out.drew
            have HAD : Hid (Whl w2.drew w1.heap.size 50 #[.int .i64 x8, .int .i64 x9, .int .i64 x10]) := Lib.hid HA2.out.drew
            have HBD : Hid (Below w.heap.size w w2.drew) := Lib.hid HBJ.out.drew
            have l0d := HAD.out.cell 0
            have fd := HAD.out.free 0
            simp only [List.getElem?_toArray, List.getElem?_cons_succ, List.getElem?_cons_zero] at l0d
            clear a0 u3 k2 l0 l1 l2 hfz
            generalize w2.drew = wd at *
            go_wp2_with fail
            exact ⟨⟨j + 1, x8 + hh, x9, x10, hjt, by go_num, Lib.hid ⟨by rw [HST.out 8, ← HXX.out.1, HOW.out]; simp, by rw [HST.out 9, ← HXX.out.2.1, HOW.out]; simp, by rw [HST.out 10, ← HXX.out.2.2, HOW.out]; simp⟩, HSD.out.far (by show w.heap.size ≠ w1.heap.size; omega) (fun g hg => by have : gz = g := (by simpa [Value.ownBlock] using hg); show g ≠ w1.heap.size; omega) (fun g hg => by have : gl = g := (by simpa [Value.ownBlock] using hg); show g ≠ w1.heap.size; omega), HAD.out.set 0 _, HBD.out.setCell (by show w.heap.size ≤ w1.heap.size; omega) _⟩, measZ hjt⟩
          · have hwo : IntKind.i64.wrap (ow - 8) = 1 := by rw [IntKind.wrap_i64]; omega
            have HOW := Lib.hid how8
            clear how8
            have hwa : IntKind.i64.wrap (x9 + hh) = x9 + hh := by rw [IntKind.wrap_i64]; omega
            obtain ⟨w2, hw2⟩ : ∃ x, x = wr := ⟨_, rfl⟩
            rw [← hw2] at HS2 HA2 HBJ a0 u3 k2 l0 l1 l2 hfz ⊢
            clear hw2
            go_wp2_with fail
            go_still_tail 16, (by kernel_rfl)
            change wpList _ _ _ _ _ w2.drew
            have HSD : Hid (EvS w2.drew w.heap.size n hits n n (.slice (some ⟨gz, 0, none⟩) n cz) (.slice (some ⟨gl, 0, none⟩) n cl)) := Lib.hid HS2.out.drew
            have HAD : Hid (Whl w2.drew w1.heap.size 50 #[.int .i64 x8, .int .i64 x9, .int .i64 x10]) := Lib.hid HA2.out.drew
            have HBD : Hid (Below w.heap.size w w2.drew) := Lib.hid HBJ.out.drew
            have l1d := HAD.out.cell 1
            have fd := HAD.out.free 1
            simp only [List.getElem?_toArray, List.getElem?_cons_succ, List.getElem?_cons_zero] at l1d
            clear a0 u3 k2 l0 l1 l2 hfz
            generalize w2.drew = wd at *
            go_wp2_with fail
            exact ⟨⟨j + 1, x8, x9 + hh, x10, hjt, by go_num, Lib.hid ⟨by rw [HST.out 8, ← HXX.out.1, HOW.out]; simp, by rw [HST.out 9, ← HXX.out.2.1, HOW.out]; simp, by rw [HST.out 10, ← HXX.out.2.2, HOW.out]; simp⟩, HSD.out.far (by show w.heap.size ≠ w1.heap.size; omega) (fun g hg => by have : gz = g := (by simpa [Value.ownBlock] using hg); show g ≠ w1.heap.size; omega) (fun g hg => by have : gl = g := (by simpa [Value.ownBlock] using hg); show g ≠ w1.heap.size; omega), HAD.out.set 1 _, HBD.out.setCell (by show w.heap.size ≤ w1.heap.size; omega) _⟩, measZ hjt⟩
        · obtain rfl : n = j := by omega
          have htk : (evPs hits n).take n = evPs hits n := by rw [List.take_of_length_le]; rw [evPs_len]; exact Nat.le_refl _
          rw [htk] at HXX
          have k0 := hS.blk.cell 0
          have k1 := hS.blk.cell 1
          have k2 := hS.blk.cell 2
          have l0 := hA.cell 0
          have l1 := hA.cell 1
          have l2 := hA.cell 2
          simp only [List.getElem?_toArray, List.getElem?_cons_succ, List.getElem?_cons_zero] at k0 k1 k2 l0 l1 l2
          clear htk hS hA hBj
          go_upto_region 21 with fail
          obtain ⟨was, hwas⟩ : ∃ was, was = (if (if x8 < x9 then x9 else x8) < x10 then x10 else if x8 < x9 then x9 else x8) := ⟨_, rfl⟩
          rw [← hwas]
          have HW : Hid (x8 ≤ was ∧ x9 ≤ was ∧ x10 ≤ was) := Lib.hid (by rw [hwas]; refine ⟨?_, ?_, ?_⟩ <;> split <;> split <;> omega)
          have HRH := Lib.hid (evRowH wr wr.heap.size rfl)
          obtain ⟨w2, hw2⟩ : ∃ x, x = wr := ⟨_, rfl⟩
          rw [← hw2] at HS2 HA2 HBJ k0 k1 k2 l0 l1 l2 HRH ⊢
          clear hw2 hwas
          have hsA := HA2.out.low
          go_wp2_with (first
            | (go_at_call 9; go_loud (refine (evMake gz cz gl cl w2.heap.size w.heap.size hits n _ (by omega) (by omega) (HS2.out.zr.alloc _) (HS2.out.lr.alloc _) HRH.out).mono ?_; rintro e w3 ⟨v, cs, rfl, hR, ho, hb3⟩; obtain ⟨St, hs0, hsI, hst, hcl⟩ := evPlan (by omega) (by omega) hR; have HST0 := Lib.hid hs0; have HSI := Lib.hid hsI; have HSTP := Lib.hid hst; obtain ⟨Av, cv, hv, _, hncv, hcmv⟩ := own_slice ho; subst hv; have HO3 := Lib.hid ho; have HB3 := Lib.hid (HBJ.out.alloc (by omega) (.cells #[.int .i64 8, .int .i64 9, .int .i64 10] 3) |>.trans (hb3.mono (by simp; omega))); have HS3 := Lib.hid (((HS2.out.alloc (.cells #[.int .i64 8, .int .i64 9, .int .i64 10] 3))).below hb3); have HA3 := Lib.hid ((HA2.out.alloc (.cells #[.int .i64 8, .int .i64 9, .int .i64 10] 3)).below hb3 (by simp; omega)); clear hR ho hb3 hs0 hsI hst))
            | fail)
          go_loopw [11] (fun kv wk => ∃ (k : Nat) (y8 y9 y10 : Int), k ≤ cs.length ∧ kv = .int .i64 k ∧ Hid ((y8 = loadP (St k) 8 ∧ y9 = loadP (St k) 9 ∧ y10 = loadP (St k) 10) ∧ y8 ≤ was ∧ y9 ≤ was ∧ y10 ≤ was) ∧ EvS wk w.heap.size n hits n n (.slice (some ⟨gz, 0, none⟩) n cz) (.slice (some ⟨gl, 0, none⟩) n cl) ∧ Whl wk w1.heap.size 50 #[.int .i64 y8, .int .i64 y9, .int .i64 y10] ∧ wk.ownsRow w2.heap.size 42 5 (.slice Av cs.length cv) cs.length (cs.flatMap chV) ∧ Below w.heap.size w wk) (fun kv _ => cs.length - (intOf kv).toNat)
          case atStart => exact ⟨0, x8, x9, x10, Nat.zero_le _, rfl, Lib.hid ⟨by rw [HST0.out]; exact HXX.out, HW.out⟩, HS3.out, HA3.out, own_mono HO3.out (by simp), HB3.out⟩
          case round =>
            obtain ⟨k, y8, y9, y10, hkl, rfl, HYY, hS, hA, hO, hBk⟩ := hrel
            have HS4 := Lib.hid hS
            have HA4 := Lib.hid hA
            have HO4 := Lib.hid hO
            have HBK := Lib.hid hBk
            have l0 := hA.cell 0
            have l1 := hA.cell 1
            have l2 := hA.cell 2
            simp only [List.getElem?_toArray, List.getElem?_cons_succ, List.getElem?_cons_zero] at l0 l1 l2
            by_cases hkt : k < cs.length
            · have q8 : (k : Int) < (cs.length : Int) := by omega
              obtain ⟨gv, cv2, ev, hgv, hgvl, _, _⟩ := own_form hO (by omega)
              injection ev with ev1 ev2 ev3
              subst ev1 ev3
              obtain ⟨c0, c1, -, c3, -⟩ := ch_ownE hO hkt
              obtain ⟨-, hkd, q, hqn, hzo, hmv, hne, hld, hlt⟩ := (HSTP.out k hkt).says (HSI.out k (by omega))
              obtain ⟨mv, hmv0⟩ : ∃ mv, mv = cs[k].mv := ⟨_, rfl⟩
              obtain ⟨zq, hzq⟩ : ∃ zq, zq = cs[k].zo := ⟨_, rfl⟩
              rw [hkd] at c0
              rw [← hzq] at c1 hzo
              rw [← hmv0] at c3 hmv hne hld hlt
              obtain ⟨ga, oa, rfl, hga, a00⟩ := HX.out.2.2 q _ (intsV_at (by have := HN.out; omega : q < hits.length))
              obtain ⟨x, hx⟩ : ∃ x, x = hits[q]'(by have := HN.out; omega) := ⟨_, rfl⟩
              rw [← hx] at a00
              have hgd : hits.getD q 0 = x := by rw [hx, List.getD_eq_getElem?_getD, List.getElem?_eq_getElem (by have := HN.out; omega)]; rfl
              have a0 := bkeep hBk a00 hga
              have e1 := and255 x
              obtain ⟨hh, hhh⟩ : ∃ hh, hh = evH x := ⟨_, rfl⟩
              have hhb := evH_r x
              rw [← hhh] at e1 hhb
              have hz := rowZ_at (w := wr) (B := w.heap.size) (g := gz) (c := cz) (l := evZs hits n n) (by rw [evZs_len]; exact hS.zr) (i := q) (by rw [evZs_len]; exact hqn)
              obtain ⟨ow, how⟩ : ∃ ow, ow = evOw x := ⟨_, rfl⟩
              obtain ⟨-, -, -, u3, -⟩ := hz
              rw [evZs_get] at u3
              rw [show (evZ hits n q).ow = ow by rw [how, ← hgd]; rfl] at u3
              rw [hgd, ← how, ← hhh] at hld hlt
              rw [hgd, ← how] at hne
              have hows := evOw_r x
              rw [← how] at hows
              obtain ⟨zi, hzi⟩ : ∃ zi, zi = zq - 1 := ⟨_, rfl⟩
              have hq0 : q = zi.toNat := by omega
              have hzi0 : 0 ≤ zi := by omega
              have hzin : zi < n := by omega
              rw [hq0] at a0 u3
              have hz1 : 1 ≤ zq := by omega
              have hz2 : zq ≤ n := by omega
              have hwz : IntKind.i64.wrap (zq - 1) = zi := by rw [IntKind.wrap_i64]; omega
              have k2 := hS.blk.cell 2
              have hfz := fun k => hA.free k
              simp only [List.getElem?_toArray, List.getElem?_cons_succ, List.getElem?_cons_zero] at k2
              have g8 := evSB (by omega : n ≤ 12) (HSI.out k (by omega)) 8
              have g9 := evSB (by omega : n ≤ 12) (HSI.out k (by omega)) 9
              have g10 := evSB (by omega : n ≤ 12) (HSI.out k (by omega)) 10
              rw [← HYY.out.1.1] at g8
              rw [← HYY.out.1.2.1] at g9
              rw [← HYY.out.1.2.2] at g10
              have hl8 := hld 8
              have hl9 := hld 9
              have hl10 := hld 10
              rw [← HYY.out.1.1] at hl8
              rw [← HYY.out.1.2.1] at hl9
              rw [← HYY.out.1.2.2] at hl10
              have HL8 := Lib.hid hl8
              have HL9 := Lib.hid hl9
              have HL10 := Lib.hid hl10
              have hyy := HYY.out
              have HLT := Lib.hid hlt
              obtain ⟨w4, hw4⟩ : ∃ x, x = wr := ⟨_, rfl⟩
              rw [← hw4] at HS4 HA4 HO4 HBK a0 u3 k2 l0 l1 l2 hfz c0 c1 c3 ⊢
              have hszA := HA4.out.low
              clear hw4 hx hgd hhh how a00 hS hA hO hBk hld hq0 hzi hl8 hl9 hl10 hqn hzo hmv0 hzq hlt HX hkd
              have hcase : (ow = 8 ∧ mv = 9) ∨ (ow = 8 ∧ mv = 10) ∨ (ow = 9 ∧ mv = 8) ∨ (ow = 9 ∧ mv = 10) := by omega
              clear hmv hne hows
              rcases hcase with ⟨how, hmv⟩ | ⟨how, hmv⟩ | ⟨how, hmv⟩ | ⟨how, hmv⟩
              · have hwo : IntKind.i64.wrap (ow - 8) = 0 := by rw [IntKind.wrap_i64]; omega
                have hwm : IntKind.i64.wrap (mv - 8) = 1 := by rw [IntKind.wrap_i64]; omega
                have hm8 : 8 ≤ mv := by omega
                have hm10 : mv ≤ 10 := by omega
                have hwa : IntKind.i64.wrap (y8 - hh) = y8 - hh := by rw [IntKind.wrap_i64]; omega
                have hwb : IntKind.i64.wrap (y9 + hh) = y9 + hh := by rw [IntKind.wrap_i64]; omega
                have hlt2 : y9 + hh < y8 := by
                  have h1 := HLT.out
                  rw [how, hmv, ← HYY.out.1.1, ← HYY.out.1.2.1] at h1
                  exact h1
                have hlw : y9 + hh < was := by omega
                have HYN : Hid ((y8 - hh = loadP (St (k + 1)) 8 ∧ y9 + hh = loadP (St (k + 1)) 9 ∧ y10 = loadP (St (k + 1)) 10) ∧ y8 - hh ≤ was ∧ y9 + hh ≤ was ∧ y10 ≤ was) := Lib.hid (by
                  rw [HL8.out, HL9.out, HL10.out, how, hmv]
                  refine ⟨⟨by simp, by simp, by simp⟩, ?_, ?_, ?_⟩ <;> omega)
                clear how hmv hlt2 hyy
                go_wp2_with fail
                go_still_tail 17, (by kernel_rfl)
                change wpList _ _ _ _ _ w4.drew
                have HSD := Lib.hid HS4.out.drew
                have HAD := Lib.hid HA4.out.drew
                have HOD := Lib.hid ((Touch.of_drew (fun _ => False) w4).own HO4.out (fun _ _ h => h))
                have HBD := Lib.hid (HBK.out.drew)
                have d0 := HAD.out.cell 0
                have d1 := HAD.out.cell 1
                have d2 := HAD.out.cell 2
                have c3d : w4.drew.cell? ⟨gv, k * 5 + 3, none⟩ = some (.int .i64 mv) := c3
                have fd := fun k => HAD.out.free k
                simp only [List.getElem?_toArray, List.getElem?_cons_succ, List.getElem?_cons_zero] at d0 d1 d2
                clear a0 u3 k2 l0 l1 l2 hfz c0 c1 c3
                generalize w4.drew = wd at *
                have hgA : gv ≠ w1.heap.size := by omega
                go_wp2_with fail
                exact ⟨⟨k + 1, y8 - hh, y9 + hh, y10, hkt, by go_num, HYN, (HSD.out.far (by show w.heap.size ≠ w1.heap.size; omega) (fun g hg => by have : gz = g := (by simpa [Value.ownBlock] using hg); show g ≠ w1.heap.size; omega) (fun g hg => by have : gl = g := (by simpa [Value.ownBlock] using hg); show g ≠ w1.heap.size; omega)).far (by show w.heap.size ≠ w1.heap.size; omega) (fun g hg => by have : gz = g := (by simpa [Value.ownBlock] using hg); show g ≠ w1.heap.size; omega) (fun g hg => by have : gl = g := (by simpa [Value.ownBlock] using hg); show g ≠ w1.heap.size; omega), (HAD.out.set 0 _).set 1 _, own_set_ne (own_set_ne HOD.out (fun g hg => by have : gv = g := (by simpa [Value.ownBlock] using hg); show g ≠ w1.heap.size; omega)) (fun g hg => by have : gv = g := (by simpa [Value.ownBlock] using hg); show g ≠ w1.heap.size; omega), (HBD.out.setCell (by show w.heap.size ≤ w1.heap.size; omega) _).setCell (by show w.heap.size ≤ w1.heap.size; omega) _⟩, measZ hkt⟩
              · have hwo : IntKind.i64.wrap (ow - 8) = 0 := by rw [IntKind.wrap_i64]; omega
                have hwm : IntKind.i64.wrap (mv - 8) = 2 := by rw [IntKind.wrap_i64]; omega
                have hm8 : 8 ≤ mv := by omega
                have hm10 : mv ≤ 10 := by omega
                have hwa : IntKind.i64.wrap (y8 - hh) = y8 - hh := by rw [IntKind.wrap_i64]; omega
                have hwb : IntKind.i64.wrap (y10 + hh) = y10 + hh := by rw [IntKind.wrap_i64]; omega
                have hlt2 : y10 + hh < y8 := by
                  have h1 := HLT.out
                  rw [how, hmv, ← HYY.out.1.1, ← HYY.out.1.2.2] at h1
                  exact h1
                have hlw : y10 + hh < was := by omega
                have HYN : Hid ((y8 - hh = loadP (St (k + 1)) 8 ∧ y9 = loadP (St (k + 1)) 9 ∧ y10 + hh = loadP (St (k + 1)) 10) ∧ y8 - hh ≤ was ∧ y9 ≤ was ∧ y10 + hh ≤ was) := Lib.hid (by
                  rw [HL8.out, HL9.out, HL10.out, how, hmv]
                  refine ⟨⟨by simp, by simp, by simp⟩, ?_, ?_, ?_⟩ <;> omega)
                clear how hmv hlt2 hyy
                go_wp2_with fail
                go_still_tail 17, (by kernel_rfl)
                change wpList _ _ _ _ _ w4.drew
                have HSD := Lib.hid HS4.out.drew
                have HAD := Lib.hid HA4.out.drew
                have HOD := Lib.hid ((Touch.of_drew (fun _ => False) w4).own HO4.out (fun _ _ h => h))
                have HBD := Lib.hid (HBK.out.drew)
                have d0 := HAD.out.cell 0
                have d1 := HAD.out.cell 1
                have d2 := HAD.out.cell 2
                have c3d : w4.drew.cell? ⟨gv, k * 5 + 3, none⟩ = some (.int .i64 mv) := c3
                have fd := fun k => HAD.out.free k
                simp only [List.getElem?_toArray, List.getElem?_cons_succ, List.getElem?_cons_zero] at d0 d1 d2
                clear a0 u3 k2 l0 l1 l2 hfz c0 c1 c3
                generalize w4.drew = wd at *
                have hgA : gv ≠ w1.heap.size := by omega
                go_wp2_with fail
                exact ⟨⟨k + 1, y8 - hh, y9, y10 + hh, hkt, by go_num, HYN, (HSD.out.far (by show w.heap.size ≠ w1.heap.size; omega) (fun g hg => by have : gz = g := (by simpa [Value.ownBlock] using hg); show g ≠ w1.heap.size; omega) (fun g hg => by have : gl = g := (by simpa [Value.ownBlock] using hg); show g ≠ w1.heap.size; omega)).far (by show w.heap.size ≠ w1.heap.size; omega) (fun g hg => by have : gz = g := (by simpa [Value.ownBlock] using hg); show g ≠ w1.heap.size; omega) (fun g hg => by have : gl = g := (by simpa [Value.ownBlock] using hg); show g ≠ w1.heap.size; omega), (HAD.out.set 0 _).set 2 _, own_set_ne (own_set_ne HOD.out (fun g hg => by have : gv = g := (by simpa [Value.ownBlock] using hg); show g ≠ w1.heap.size; omega)) (fun g hg => by have : gv = g := (by simpa [Value.ownBlock] using hg); show g ≠ w1.heap.size; omega), (HBD.out.setCell (by show w.heap.size ≤ w1.heap.size; omega) _).setCell (by show w.heap.size ≤ w1.heap.size; omega) _⟩, measZ hkt⟩
              · have hwo : IntKind.i64.wrap (ow - 8) = 1 := by rw [IntKind.wrap_i64]; omega
                have hwm : IntKind.i64.wrap (mv - 8) = 0 := by rw [IntKind.wrap_i64]; omega
                have hm8 : 8 ≤ mv := by omega
                have hm10 : mv ≤ 10 := by omega
                have hwa : IntKind.i64.wrap (y9 - hh) = y9 - hh := by rw [IntKind.wrap_i64]; omega
                have hwb : IntKind.i64.wrap (y8 + hh) = y8 + hh := by rw [IntKind.wrap_i64]; omega
                have hlt2 : y8 + hh < y9 := by
                  have h1 := HLT.out
                  rw [how, hmv, ← HYY.out.1.2.1, ← HYY.out.1.1] at h1
                  exact h1
                have hlw : y8 + hh < was := by omega
                have HYN : Hid ((y8 + hh = loadP (St (k + 1)) 8 ∧ y9 - hh = loadP (St (k + 1)) 9 ∧ y10 = loadP (St (k + 1)) 10) ∧ y8 + hh ≤ was ∧ y9 - hh ≤ was ∧ y10 ≤ was) := Lib.hid (by
                  rw [HL8.out, HL9.out, HL10.out, how, hmv]
                  refine ⟨⟨by simp, by simp, by simp⟩, ?_, ?_, ?_⟩ <;> omega)
                clear how hmv hlt2 hyy
                go_wp2_with fail
                go_still_tail 17, (by kernel_rfl)
                change wpList _ _ _ _ _ w4.drew
                have HSD := Lib.hid HS4.out.drew
                have HAD := Lib.hid HA4.out.drew
                have HOD := Lib.hid ((Touch.of_drew (fun _ => False) w4).own HO4.out (fun _ _ h => h))
                have HBD := Lib.hid (HBK.out.drew)
                have d0 := HAD.out.cell 0
                have d1 := HAD.out.cell 1
                have d2 := HAD.out.cell 2
                have c3d : w4.drew.cell? ⟨gv, k * 5 + 3, none⟩ = some (.int .i64 mv) := c3
                have fd := fun k => HAD.out.free k
                simp only [List.getElem?_toArray, List.getElem?_cons_succ, List.getElem?_cons_zero] at d0 d1 d2
                clear a0 u3 k2 l0 l1 l2 hfz c0 c1 c3
                generalize w4.drew = wd at *
                have hgA : gv ≠ w1.heap.size := by omega
                go_wp2_with fail
                exact ⟨⟨k + 1, y8 + hh, y9 - hh, y10, hkt, by go_num, HYN, (HSD.out.far (by show w.heap.size ≠ w1.heap.size; omega) (fun g hg => by have : gz = g := (by simpa [Value.ownBlock] using hg); show g ≠ w1.heap.size; omega) (fun g hg => by have : gl = g := (by simpa [Value.ownBlock] using hg); show g ≠ w1.heap.size; omega)).far (by show w.heap.size ≠ w1.heap.size; omega) (fun g hg => by have : gz = g := (by simpa [Value.ownBlock] using hg); show g ≠ w1.heap.size; omega) (fun g hg => by have : gl = g := (by simpa [Value.ownBlock] using hg); show g ≠ w1.heap.size; omega), (HAD.out.set 1 _).set 0 _, own_set_ne (own_set_ne HOD.out (fun g hg => by have : gv = g := (by simpa [Value.ownBlock] using hg); show g ≠ w1.heap.size; omega)) (fun g hg => by have : gv = g := (by simpa [Value.ownBlock] using hg); show g ≠ w1.heap.size; omega), (HBD.out.setCell (by show w.heap.size ≤ w1.heap.size; omega) _).setCell (by show w.heap.size ≤ w1.heap.size; omega) _⟩, measZ hkt⟩
              · have hwo : IntKind.i64.wrap (ow - 8) = 1 := by rw [IntKind.wrap_i64]; omega
                have hwm : IntKind.i64.wrap (mv - 8) = 2 := by rw [IntKind.wrap_i64]; omega
                have hm8 : 8 ≤ mv := by omega
                have hm10 : mv ≤ 10 := by omega
                have hwa : IntKind.i64.wrap (y9 - hh) = y9 - hh := by rw [IntKind.wrap_i64]; omega
                have hwb : IntKind.i64.wrap (y10 + hh) = y10 + hh := by rw [IntKind.wrap_i64]; omega
                have hlt2 : y10 + hh < y9 := by
                  have h1 := HLT.out
                  rw [how, hmv, ← HYY.out.1.2.1, ← HYY.out.1.2.2] at h1
                  exact h1
                have hlw : y10 + hh < was := by omega
                have HYN : Hid ((y8 = loadP (St (k + 1)) 8 ∧ y9 - hh = loadP (St (k + 1)) 9 ∧ y10 + hh = loadP (St (k + 1)) 10) ∧ y8 ≤ was ∧ y9 - hh ≤ was ∧ y10 + hh ≤ was) := Lib.hid (by
                  rw [HL8.out, HL9.out, HL10.out, how, hmv]
                  refine ⟨⟨by simp, by simp, by simp⟩, ?_, ?_, ?_⟩ <;> omega)
                clear how hmv hlt2 hyy
                go_wp2_with fail
                go_still_tail 17, (by kernel_rfl)
                change wpList _ _ _ _ _ w4.drew
                have HSD := Lib.hid HS4.out.drew
                have HAD := Lib.hid HA4.out.drew
                have HOD := Lib.hid ((Touch.of_drew (fun _ => False) w4).own HO4.out (fun _ _ h => h))
                have HBD := Lib.hid (HBK.out.drew)
                have d0 := HAD.out.cell 0
                have d1 := HAD.out.cell 1
                have d2 := HAD.out.cell 2
                have c3d : w4.drew.cell? ⟨gv, k * 5 + 3, none⟩ = some (.int .i64 mv) := c3
                have fd := fun k => HAD.out.free k
                simp only [List.getElem?_toArray, List.getElem?_cons_succ, List.getElem?_cons_zero] at d0 d1 d2
                clear a0 u3 k2 l0 l1 l2 hfz c0 c1 c3
                generalize w4.drew = wd at *
                have hgA : gv ≠ w1.heap.size := by omega
                go_wp2_with fail
                exact ⟨⟨k + 1, y8, y9 - hh, y10 + hh, hkt, by go_num, HYN, (HSD.out.far (by show w.heap.size ≠ w1.heap.size; omega) (fun g hg => by have : gz = g := (by simpa [Value.ownBlock] using hg); show g ≠ w1.heap.size; omega) (fun g hg => by have : gl = g := (by simpa [Value.ownBlock] using hg); show g ≠ w1.heap.size; omega)).far (by show w.heap.size ≠ w1.heap.size; omega) (fun g hg => by have : gz = g := (by simpa [Value.ownBlock] using hg); show g ≠ w1.heap.size; omega) (fun g hg => by have : gl = g := (by simpa [Value.ownBlock] using hg); show g ≠ w1.heap.size; omega), (HAD.out.set 1 _).set 2 _, own_set_ne (own_set_ne HOD.out (fun g hg => by have : gv = g := (by simpa [Value.ownBlock] using hg); show g ≠ w1.heap.size; omega)) (fun g hg => by have : gv = g := (by simpa [Value.ownBlock] using hg); show g ≠ w1.heap.size; omega), (HBD.out.setCell (by show w.heap.size ≤ w1.heap.size; omega) _).setCell (by show w.heap.size ≤ w1.heap.size; omega) _⟩, measZ hkt⟩
            · obtain rfl : k = cs.length := by omega
              have hyy := HYY.out.2
              have hmx : (if (if y8 < y9 then y9 else y8) < y10 then y10 else if y8 < y9 then y9 else y8) ≤ was := by split <;> split <;> omega
              clear hyy hS hA hO hBk
              go_wp2_with (first
                | (go_at_call 8; go_loud (refine (plKnown _).mono ?_; rintro e w5 ⟨rfl, hb5⟩; have HB5 := Lib.hid (HBK.out.trans (hb5.mono HBK.out.size)); clear hb5))
                | fail)
              all_goals (go_ret; exact ⟨rfl, HB5.out⟩)
end Go.Proofs.Ytepjehcmiofehaa
