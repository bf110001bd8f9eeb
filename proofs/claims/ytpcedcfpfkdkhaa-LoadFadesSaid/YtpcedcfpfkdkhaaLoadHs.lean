/- LoadFades: all runs. -/
import Derived.KernelRfl
import Derived.Test.YtpcedcfpfkdkhaaLoadH0
import Derived.Test.YtpcedcfpfkdkhaaLoadH1
import Derived.Test.YtpcedcfpfkdkhaaLoadH2
import Derived.Test.YtpcedcfpfkdkhaaLoadH3
namespace Go.Proofs.Ytpcedcfpfkdkhaa
open Go.RowKit
set_option linter.unusedVariables false
set_option linter.unusedSimpArgs false
set_option maxRecDepth 100000

theorem hits (i : Nat) (h : i < 300) : okHit (ldT (Int.ofNat (i + 1))) 3 (ldT (Int.ofNat (i + 2))) = true := by
  by_cases h0 : i < 60
  · have := allB_all hitN0 (i - 0) (by omega)
    rw [show i - 0 + 0 = i by omega] at this; exact this
  by_cases h1 : i < 120
  · have := allB_all hitN1 (i - 60) (by omega)
    rw [show i - 60 + 60 = i by omega] at this; exact this
  by_cases h2 : i < 180
  · have := allB_all hitN2 (i - 120) (by omega)
    rw [show i - 120 + 120 = i by omega] at this; exact this
  by_cases h3 : i < 240
  · have := allB_all hitN3 (i - 180) (by omega)
    rw [show i - 180 + 180 = i by omega] at this; exact this
  by_cases h4 : i < 300
  · have := allB_all hitN4 (i - 240) (by omega)
    rw [show i - 240 + 240 = i by omega] at this; exact this
  omega
theorem fades (i : Nat) (h : i < 300) : okFade (ldT (Int.ofNat (i + 1))) 3 (half (i + 1)) = true := by
  by_cases h0 : i < 30
  · have := allB_all fadeN0 (i - 0) (by omega)
    rw [show i - 0 + 0 = i by omega] at this; exact this
  by_cases h1 : i < 60
  · have := allB_all fadeN1 (i - 30) (by omega)
    rw [show i - 30 + 30 = i by omega] at this; exact this
  by_cases h2 : i < 90
  · have := allB_all fadeN2 (i - 60) (by omega)
    rw [show i - 60 + 60 = i by omega] at this; exact this
  by_cases h3 : i < 120
  · have := allB_all fadeN3 (i - 90) (by omega)
    rw [show i - 90 + 90 = i by omega] at this; exact this
  by_cases h4 : i < 150
  · have := allB_all fadeN4 (i - 120) (by omega)
    rw [show i - 120 + 120 = i by omega] at this; exact this
  by_cases h5 : i < 180
  · have := allB_all fadeN5 (i - 150) (by omega)
    rw [show i - 150 + 150 = i by omega] at this; exact this
  by_cases h6 : i < 210
  · have := allB_all fadeN6 (i - 180) (by omega)
    rw [show i - 180 + 180 = i by omega] at this; exact this
  by_cases h7 : i < 240
  · have := allB_all fadeN7 (i - 210) (by omega)
    rw [show i - 210 + 210 = i by omega] at this; exact this
  by_cases h8 : i < 270
  · have := allB_all fadeN8 (i - 240) (by omega)
    rw [show i - 240 + 240 = i by omega] at this; exact this
  by_cases h9 : i < 300
  · have := allB_all fadeN9 (i - 270) (by omega)
    rw [show i - 270 + 270 = i by omega] at this; exact this
  omega
theorem tabs (i : Nat) (h : i < 300) : okTab (ldT (Int.ofNat (i + 1))) 3 (ldR tabN (Int.ofNat (i + 1))) tabK (.slice (some ⟨tabN, 0, none⟩) 1 capTop) = true := by
  by_cases h0 : i < 20
  · have := allB_all tabNN0 (i - 0) (by omega)
    rw [show i - 0 + 0 = i by omega] at this; exact this
  by_cases h1 : i < 40
  · have := allB_all tabNN1 (i - 20) (by omega)
    rw [show i - 20 + 20 = i by omega] at this; exact this
  by_cases h2 : i < 60
  · have := allB_all tabNN2 (i - 40) (by omega)
    rw [show i - 40 + 40 = i by omega] at this; exact this
  by_cases h3 : i < 80
  · have := allB_all tabNN3 (i - 60) (by omega)
    rw [show i - 60 + 60 = i by omega] at this; exact this
  by_cases h4 : i < 100
  · have := allB_all tabNN4 (i - 80) (by omega)
    rw [show i - 80 + 80 = i by omega] at this; exact this
  by_cases h5 : i < 120
  · have := allB_all tabNN5 (i - 100) (by omega)
    rw [show i - 100 + 100 = i by omega] at this; exact this
  by_cases h6 : i < 140
  · have := allB_all tabNN6 (i - 120) (by omega)
    rw [show i - 120 + 120 = i by omega] at this; exact this
  by_cases h7 : i < 160
  · have := allB_all tabNN7 (i - 140) (by omega)
    rw [show i - 140 + 140 = i by omega] at this; exact this
  by_cases h8 : i < 180
  · have := allB_all tabNN8 (i - 160) (by omega)
    rw [show i - 160 + 160 = i by omega] at this; exact this
  by_cases h9 : i < 200
  · have := allB_all tabNN9 (i - 180) (by omega)
    rw [show i - 180 + 180 = i by omega] at this; exact this
  by_cases h10 : i < 220
  · have := allB_all tabNN10 (i - 200) (by omega)
    rw [show i - 200 + 200 = i by omega] at this; exact this
  by_cases h11 : i < 240
  · have := allB_all tabNN11 (i - 220) (by omega)
    rw [show i - 220 + 220 = i by omega] at this; exact this
  by_cases h12 : i < 260
  · have := allB_all tabNN12 (i - 240) (by omega)
    rw [show i - 240 + 240 = i by omega] at this; exact this
  by_cases h13 : i < 280
  · have := allB_all tabNN13 (i - 260) (by omega)
    rw [show i - 260 + 260 = i by omega] at this; exact this
  by_cases h14 : i < 300
  · have := allB_all tabNN14 (i - 280) (by omega)
    rw [show i - 280 + 280 = i by omega] at this; exact this
  omega
end Go.Proofs.Ytpcedcfpfkdkhaa
