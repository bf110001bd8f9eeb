/- vault: pure: whose purses and orders there are; what all of them come to. -/
import Derived.ProofKit
import Derived.Test.YtdlbiobjnohfbaaProg
import Derived.WalkKit
import Derived.WalkSpells
import Derived.WalkLawsBesides
import Derived.Deep.QuietTactic
import Derived.BigQuiet
import Derived.RegionTactic
import Derived.BigRegion
import Derived.Outline
import Derived.LoopTactic
import Derived.Lib.Hide
import Derived.Deep.RegionHeld3
import Derived.Laws.AppendOwnNone
import Derived.Deep.AppendLies
import Derived.Maps.AppendAt
import Derived.Laws.Rows
import Derived.Laws.OwnMore
import Derived.Deep.RegionLaw
import Derived.Deep.Onto
import Derived.Maps.Own
import Derived.Maps.RangeRun
import Derived.Carry
import Derived.Maps.Range
import Derived.Deep.DeepMust
import Derived.Deep.Cut
import Derived.StillTailTactics
import Derived.Deep.Light
import Derived.Test.YtdlbiobjnohfbaaLay
import Derived.Shelf.SlSortCmp.NoneTotal
import Derived.Test.YtdlbiobjnohfbaaVi0
import Derived.Test.YtdlbiobjnohfbaaVi1
import Derived.Test.YtdlbiobjnohfbaaVi2
import Derived.Test.YtdlbiobjnohfbaaVi3
import Derived.Test.YtdlbiobjnohfbaaVi4
import Derived.Test.YtdlbiobjnohfbaaVi5
import Derived.Test.YtdlbiobjnohfbaaVi6
import Derived.Test.YtdlbiobjnohfbaaVi7
import Derived.Test.YtdlbiobjnohfbaaVi8
import Derived.Test.YtdlbiobjnohfbaaVi9
import Derived.Test.YtdlbiobjnohfbaaVi10
import Derived.Test.YtdlbiobjnohfbaaVi11
import Derived.Test.YtdlbiobjnohfbaaVi12
import Derived.Test.YtdlbiobjnohfbaaVi13
import Derived.Test.YtdlbiobjnohfbaaVi14
import Derived.Test.YtdlbiobjnohfbaaVi15
import Derived.Test.YtdlbiobjnohfbaaVi16
import Derived.Test.YtdlbiobjnohfbaaVi17
import Derived.Test.YtdlbiobjnohfbaaVi18
import Derived.Test.YtdlbiobjnohfbaaVi19
import Derived.Test.YtdlbiobjnohfbaaVi21
import Derived.Test.YtdlbiobjnohfbaaVi22
import Derived.Test.YtdlbiobjnohfbaaVi23
import Derived.Test.YtdlbiobjnohfbaaVi24
import Derived.Test.YtdlbiobjnohfbaaVi25
import Derived.Test.YtdlbiobjnohfbaaVi26
import Derived.Test.YtdlbiobjnohfbaaVi27
import Derived.Test.YtdlbiobjnohfbaaVi28
import Derived.Test.YtdlbiobjnohfbaaVi29
import Derived.Test.YtdlbiobjnohfbaaVi30
import Derived.Test.YtdlbiobjnohfbaaVi31
import Derived.Test.YtdlbiobjnohfbaaVi32
import Derived.Test.YtdlbiobjnohfbaaVi33
import Derived.Test.YtdlbiobjnohfbaaVi34
import Derived.Test.YtdlbiobjnohfbaaVi35
import Derived.Test.YtdlbiobjnohfbaaVi36
import Derived.Test.YtdlbiobjnohfbaaVi37
import Derived.Test.YtdlbiobjnohfbaaVi38
import Derived.Test.YtdlbiobjnohfbaaVi39
import Derived.Test.YtdlbiobjnohfbaaVi40
import Derived.Test.YtdlbiobjnohfbaaVi41
import Derived.Test.YtdlbiobjnohfbaaVi42
namespace Go.Proofs.Ytdlbiobjnohfbaa
open Go.RowKit Go.ChangeMaps Go.MapKept
set_option linter.unusedVariables false
set_option linter.unusedSimpArgs false
theorem len_names : ∀ {ks N : List By}, ks.Nodup → (∀ k ∈ ks, k ∈ N) → ks.length ≤ N.length
  | [], N, _, _ => Nat.zero_le _
  | k :: r, N, hn, h => by
    obtain ⟨h1, h2⟩ := List.nodup_cons.1 hn
    have hk : k ∈ N := h k List.mem_cons_self
    have h3 := len_names (N := N.erase k) h2 (fun x hx => by
      have hne : x ≠ k := fun e => h1 (e ▸ hx)
      exact (List.mem_erase_of_ne hne).2 (h x (List.mem_cons_of_mem _ hx)))
    have he := List.length_erase_of_mem hk
    have hp : 0 < N.length := List.length_pos_of_mem hk
    simp only [List.length_cons]; omega
theorem setP_names {l : Pm} {k : By} {i : It4} {N : List By} (h : ∀ p ∈ l, p.1 ∈ N) (hk : k ∈ N) : ∀ p ∈ setP l k i, p.1 ∈ N := by
  intro p hp
  unfold setP at hp
  split at hp
  · exact h p (del1_keys p hp)
  · rcases put1_mem p hp with rfl | hp
    · exact hk
    · exact h p hp
theorem settle_names {l : Pm} {t : Td} {N : List By} (h : ∀ p ∈ l, p.1 ∈ N) (hb : t.buyer.data.toList ∈ N) (hs : t.seller.data.toList ∈ N) : ∀ p ∈ settleP l t, p.1 ∈ N :=
  setP_names (setP_names (setP_names h hb) hb) hs
theorem settles_names {N : List By} : ∀ {T : List Td} {l : Pm}, (∀ p ∈ l, p.1 ∈ N) → (∀ t ∈ T, t.buyer.data.toList ∈ N ∧ t.seller.data.toList ∈ N) → ∀ p ∈ T.foldl settleP l, p.1 ∈ N
  | [], l, h, _ => h
  | t :: T, l, h, ht => settles_names (T := T) (settle_names h (ht t List.mem_cons_self).1 (ht t List.mem_cons_self).2) (fun x hx => ht x (List.mem_cons_of_mem _ hx))
def NmO (N : List By) (o : Od) : Prop := o.who.data.toList ∈ N
theorem takeN_names {N : List By} {x : Od} {n : Int} {L : List Od} (h : ∀ y ∈ L, NmO N y) : ∀ y ∈ takeN x n L, NmO N y := by
  intro y hy
  unfold takeN at hy
  split at hy
  · exact h y (List.mem_filter.1 hy).1
  · obtain ⟨z, hz, rfl⟩ := List.mem_map.1 hy
    split
    · exact h z hz
    · exact h z hz
theorem trade_names {N : List By} {o x : Od} {n : Int} (ho : NmO N o) (hx : NmO N x) : (tradeP o x n).buyer.data.toList ∈ N ∧ (tradeP o x n).seller.data.toList ∈ N := by
  unfold tradeP
  split
  · exact ⟨ho, hx⟩
  · exact ⟨hx, ho⟩
theorem Places.names {o : Od} {L : List Od} {T : List Td} {o1 : Od} {L1 : List Od} (h : Places o L T o1 L1) {N : List By} : NmO N o → (∀ y ∈ L, NmO N y) → (∀ t ∈ T, t.buyer.data.toList ∈ N ∧ t.seller.data.toList ∈ N) ∧ NmO N o1 ∧ ∀ y ∈ L1, NmO N y := by
  induction h with
  | done o L h => exact fun h1 h2 => ⟨fun t ht => (by cases ht), h1, h2⟩
  | step o x L T o' L' h0 hb h ih =>
    intro h1 h2
    obtain ⟨a, b, c⟩ := ih h1 (takeN_names h2)
    refine ⟨fun t ht => ?_, b, c⟩
    rcases List.mem_cons.1 ht with rfl | ht
    · exact trade_names h1 (h2 x hb.1)
    · exact a t ht
theorem gains_names {N : List By} {l : Pm} {s : ByteArray} (hs : s.data.toList ∈ N) (h : ∀ p ∈ l, p.1 ∈ N) (i : It4) : ∀ k, ∀ p ∈ gainsP l s i k, p.1 ∈ N
  | 0 => h
  | k + 1 => setP_names (gains_names hs h i k) hs
/-- all names are among these -/
def Nms (N : List By) (l : Pm) (L : List Od) : Prop := (∀ p ∈ l, p.1 ∈ N) ∧ ∀ o ∈ L, NmO N o
theorem Nms.nil : Nms [] [] [] := ⟨fun p h => (by cases h), fun p h => (by cases h)⟩
theorem Nms.more {N : List By} {l : Pm} {L : List Od} (h : Nms N l L) (k : By) : Nms (k :: N) l L := ⟨fun p hp => List.mem_cons_of_mem _ (h.1 p hp), fun o ho => List.mem_cons_of_mem _ (h.2 o ho)⟩
theorem Nms.set {N : List By} {l : Pm} {L : List Od} (h : Nms N l L) (k : By) (i : It4) : Nms (k :: N) (setP l k i) L := ⟨setP_names (h.more k).1 List.mem_cons_self, (h.more k).2⟩
theorem Nms.order {N : List By} {l : Pm} {L : List Od} (h : Nms N l L) {o : Od} {i : It4} {T : List Td} {o1 : Od} {L1 : List Od} (hp : Places o L T o1 L1) : Nms (o.who.data.toList :: N) (T.foldl settleP (setP l o.who.data.toList i)) (laid o1 L1) := by
  have h2 := h.set o.who.data.toList i
  obtain ⟨a, b, c⟩ := hp.names (N := o.who.data.toList :: N) List.mem_cons_self h2.2
  refine ⟨settles_names h2.1 a, fun y hy => ?_⟩
  unfold Go.Proofs.Ytdlbiobjnohfbaa.laid at hy
  split at hy
  · rcases List.mem_append.1 hy with hy | hy
    · exact c y hy
    · simp only [List.mem_singleton] at hy; subst hy; exact b
  · exact c y hy
theorem Nms.cancel {N : List By} {l : Pm} {L : List Od} (h : Nms N l L) (s : ByteArray) (i : It4) (id : Int) : Nms (s.data.toList :: N) (gainsP l s i 4) (goneO id L) :=
  ⟨gains_names List.mem_cons_self (h.more _).1 i 4, fun y hy => (h.more _).2 y (List.mem_filter.1 hy).1⟩
theorem Nms.len {N : List By} {l : Pm} {L : List Od} (h : Nms N l L) (hn : (l.map (·.1)).Nodup) : l.length ≤ N.length := by
  have := len_names hn (N := N) (fun k hk => by obtain ⟨p, hp, rfl⟩ := List.mem_map.1 hk; exact h.1 p hp)
  simpa using this
end Go.Proofs.Ytdlbiobjnohfbaa
