/- GateMoved: all runs. -/
import Derived.KernelRfl
import Derived.Test.YtdbhmcldfikkmaaGreatDoorGateMH0
import Derived.Test.YtdbhmcldfikkmaaGreatDoorGateMH1
import Derived.Test.YtdbhmcldfikkmaaGreatDoorGateMH2
import Derived.Test.YtdbhmcldfikkmaaGreatDoorGateMH3
namespace Go.Proofs.YtdbhmcldfikkmaaGreatDoor
open Go.RowKit
set_option linter.unusedVariables false
set_option linter.unusedSimpArgs false
set_option maxRecDepth 100000

theorem msgNs (s t : TypeId) (i : Nat) (h0 : 0 ≤ i) (h : i < 101) : okMsg s t i = true := by
  by_cases h1 : i < 4
  · have := allB_all (msgN0 s t) (i - 0) (by omega)
    rw [show i - 0 + 0 = i by omega] at this; exact this
  by_cases h2 : i < 8
  · have := allB_all (msgN1 s t) (i - 4) (by omega)
    rw [show i - 4 + 4 = i by omega] at this; exact this
  by_cases h3 : i < 12
  · have := allB_all (msgN2 s t) (i - 8) (by omega)
    rw [show i - 8 + 8 = i by omega] at this; exact this
  by_cases h4 : i < 16
  · have := allB_all (msgN3 s t) (i - 12) (by omega)
    rw [show i - 12 + 12 = i by omega] at this; exact this
  by_cases h5 : i < 20
  · have := allB_all (msgN4 s t) (i - 16) (by omega)
    rw [show i - 16 + 16 = i by omega] at this; exact this
  by_cases h6 : i < 24
  · have := allB_all (msgN5 s t) (i - 20) (by omega)
    rw [show i - 20 + 20 = i by omega] at this; exact this
  by_cases h7 : i < 28
  · have := allB_all (msgN6 s t) (i - 24) (by omega)
    rw [show i - 24 + 24 = i by omega] at this; exact this
  by_cases h8 : i < 32
  · have := allB_all (msgN7 s t) (i - 28) (by omega)
    rw [show i - 28 + 28 = i by omega] at this; exact this
  by_cases h9 : i < 36
  · have := allB_all (msgN8 s t) (i - 32) (by omega)
    rw [show i - 32 + 32 = i by omega] at this; exact this
  by_cases h10 : i < 40
  · have := allB_all (msgN9 s t) (i - 36) (by omega)
    rw [show i - 36 + 36 = i by omega] at this; exact this
  by_cases h11 : i < 44
  · have := allB_all (msgN10 s t) (i - 40) (by omega)
    rw [show i - 40 + 40 = i by omega] at this; exact this
  by_cases h12 : i < 48
  · have := allB_all (msgN11 s t) (i - 44) (by omega)
    rw [show i - 44 + 44 = i by omega] at this; exact this
  by_cases h13 : i < 52
  · have := allB_all (msgN12 s t) (i - 48) (by omega)
    rw [show i - 48 + 48 = i by omega] at this; exact this
  by_cases h14 : i < 56
  · have := allB_all (msgN13 s t) (i - 52) (by omega)
    rw [show i - 52 + 52 = i by omega] at this; exact this
  by_cases h15 : i < 60
  · have := allB_all (msgN14 s t) (i - 56) (by omega)
    rw [show i - 56 + 56 = i by omega] at this; exact this
  by_cases h16 : i < 64
  · have := allB_all (msgN15 s t) (i - 60) (by omega)
    rw [show i - 60 + 60 = i by omega] at this; exact this
  by_cases h17 : i < 68
  · have := allB_all (msgN16 s t) (i - 64) (by omega)
    rw [show i - 64 + 64 = i by omega] at this; exact this
  by_cases h18 : i < 72
  · have := allB_all (msgN17 s t) (i - 68) (by omega)
    rw [show i - 68 + 68 = i by omega] at this; exact this
  by_cases h19 : i < 76
  · have := allB_all (msgN18 s t) (i - 72) (by omega)
    rw [show i - 72 + 72 = i by omega] at this; exact this
  by_cases h20 : i < 80
  · have := allB_all (msgN19 s t) (i - 76) (by omega)
    rw [show i - 76 + 76 = i by omega] at this; exact this
  by_cases h21 : i < 84
  · have := allB_all (msgN20 s t) (i - 80) (by omega)
    rw [show i - 80 + 80 = i by omega] at this; exact this
  by_cases h22 : i < 88
  · have := allB_all (msgN21 s t) (i - 84) (by omega)
    rw [show i - 84 + 84 = i by omega] at this; exact this
  by_cases h23 : i < 92
  · have := allB_all (msgN22 s t) (i - 88) (by omega)
    rw [show i - 88 + 88 = i by omega] at this; exact this
  by_cases h24 : i < 96
  · have := allB_all (msgN23 s t) (i - 92) (by omega)
    rw [show i - 92 + 92 = i by omega] at this; exact this
  by_cases h25 : i < 100
  · have := allB_all (msgN24 s t) (i - 96) (by omega)
    rw [show i - 96 + 96 = i by omega] at this; exact this
  by_cases h26 : i < 101
  · have := allB_all (msgN25 s t) (i - 100) (by omega)
    rw [show i - 100 + 100 = i by omega] at this; exact this
  omega
theorem hearLs (s t : TypeId) (i : Nat) (h0 : 0 ≤ i) (h : i < 8) : okHearN gmFc s t i = true := by
  by_cases h1 : i < 3
  · have := allB_all (hearL0 s t) (i - 0) (by omega)
    rw [show i - 0 + 0 = i by omega] at this; exact this
  by_cases h2 : i < 6
  · have := allB_all (hearL1 s t) (i - 3) (by omega)
    rw [show i - 3 + 3 = i by omega] at this; exact this
  by_cases h3 : i < 8
  · have := allB_all (hearL2 s t) (i - 6) (by omega)
    rw [show i - 6 + 6 = i by omega] at this; exact this
  omega
theorem hearNs (s t : TypeId) (i : Nat) (h0 : 8 ≤ i) (h : i < 101) : okHearN (gmFh (Int.ofNat i) false) s t i = true := by
  by_cases h1 : i < 11
  · have := allB_all (hearN0 s t) (i - 8) (by omega)
    rw [show i - 8 + 8 = i by omega] at this; exact this
  by_cases h2 : i < 14
  · have := allB_all (hearN1 s t) (i - 11) (by omega)
    rw [show i - 11 + 11 = i by omega] at this; exact this
  by_cases h3 : i < 17
  · have := allB_all (hearN2 s t) (i - 14) (by omega)
    rw [show i - 14 + 14 = i by omega] at this; exact this
  by_cases h4 : i < 20
  · have := allB_all (hearN3 s t) (i - 17) (by omega)
    rw [show i - 17 + 17 = i by omega] at this; exact this
  by_cases h5 : i < 23
  · have := allB_all (hearN4 s t) (i - 20) (by omega)
    rw [show i - 20 + 20 = i by omega] at this; exact this
  by_cases h6 : i < 26
  · have := allB_all (hearN5 s t) (i - 23) (by omega)
    rw [show i - 23 + 23 = i by omega] at this; exact this
  by_cases h7 : i < 29
  · have := allB_all (hearN6 s t) (i - 26) (by omega)
    rw [show i - 26 + 26 = i by omega] at this; exact this
  by_cases h8 : i < 32
  · have := allB_all (hearN7 s t) (i - 29) (by omega)
    rw [show i - 29 + 29 = i by omega] at this; exact this
  by_cases h9 : i < 35
  · have := allB_all (hearN8 s t) (i - 32) (by omega)
    rw [show i - 32 + 32 = i by omega] at this; exact this
  by_cases h10 : i < 38
  · have := allB_all (hearN9 s t) (i - 35) (by omega)
    rw [show i - 35 + 35 = i by omega] at this; exact this
  by_cases h11 : i < 41
  · have := allB_all (hearN10 s t) (i - 38) (by omega)
    rw [show i - 38 + 38 = i by omega] at this; exact this
  by_cases h12 : i < 44
  · have := allB_all (hearN11 s t) (i - 41) (by omega)
    rw [show i - 41 + 41 = i by omega] at this; exact this
  by_cases h13 : i < 47
  · have := allB_all (hearN12 s t) (i - 44) (by omega)
    rw [show i - 44 + 44 = i by omega] at this; exact this
  by_cases h14 : i < 50
  · have := allB_all (hearN13 s t) (i - 47) (by omega)
    rw [show i - 47 + 47 = i by omega] at this; exact this
  by_cases h15 : i < 53
  · have := allB_all (hearN14 s t) (i - 50) (by omega)
    rw [show i - 50 + 50 = i by omega] at this; exact this
  by_cases h16 : i < 56
  · have := allB_all (hearN15 s t) (i - 53) (by omega)
    rw [show i - 53 + 53 = i by omega] at this; exact this
  by_cases h17 : i < 59
  · have := allB_all (hearN16 s t) (i - 56) (by omega)
    rw [show i - 56 + 56 = i by omega] at this; exact this
  by_cases h18 : i < 62
  · have := allB_all (hearN17 s t) (i - 59) (by omega)
    rw [show i - 59 + 59 = i by omega] at this; exact this
  by_cases h19 : i < 65
  · have := allB_all (hearN18 s t) (i - 62) (by omega)
    rw [show i - 62 + 62 = i by omega] at this; exact this
  by_cases h20 : i < 68
  · have := allB_all (hearN19 s t) (i - 65) (by omega)
    rw [show i - 65 + 65 = i by omega] at this; exact this
  by_cases h21 : i < 71
  · have := allB_all (hearN20 s t) (i - 68) (by omega)
    rw [show i - 68 + 68 = i by omega] at this; exact this
  by_cases h22 : i < 74
  · have := allB_all (hearN21 s t) (i - 71) (by omega)
    rw [show i - 71 + 71 = i by omega] at this; exact this
  by_cases h23 : i < 77
  · have := allB_all (hearN22 s t) (i - 74) (by omega)
    rw [show i - 74 + 74 = i by omega] at this; exact this
  by_cases h24 : i < 80
  · have := allB_all (hearN23 s t) (i - 77) (by omega)
    rw [show i - 77 + 77 = i by omega] at this; exact this
  by_cases h25 : i < 83
  · have := allB_all (hearN24 s t) (i - 80) (by omega)
    rw [show i - 80 + 80 = i by omega] at this; exact this
  by_cases h26 : i < 86
  · have := allB_all (hearN25 s t) (i - 83) (by omega)
    rw [show i - 83 + 83 = i by omega] at this; exact this
  by_cases h27 : i < 89
  · have := allB_all (hearN26 s t) (i - 86) (by omega)
    rw [show i - 86 + 86 = i by omega] at this; exact this
  by_cases h28 : i < 92
  · have := allB_all (hearN27 s t) (i - 89) (by omega)
    rw [show i - 89 + 89 = i by omega] at this; exact this
  by_cases h29 : i < 95
  · have := allB_all (hearN28 s t) (i - 92) (by omega)
    rw [show i - 92 + 92 = i by omega] at this; exact this
  by_cases h30 : i < 98
  · have := allB_all (hearN29 s t) (i - 95) (by omega)
    rw [show i - 95 + 95 = i by omega] at this; exact this
  by_cases h31 : i < 101
  · have := allB_all (hearN30 s t) (i - 98) (by omega)
    rw [show i - 98 + 98 = i by omega] at this; exact this
  omega
theorem hearYs (s t : TypeId) (i : Nat) (h0 : 8 ≤ i) (h : i < 14) : okHearY s t i = true := by
  by_cases h1 : i < 9
  · have := allB_all (hearY0 s t) (i - 8) (by omega)
    rw [show i - 8 + 8 = i by omega] at this; exact this
  by_cases h2 : i < 10
  · have := allB_all (hearY1 s t) (i - 9) (by omega)
    rw [show i - 9 + 9 = i by omega] at this; exact this
  by_cases h3 : i < 11
  · have := allB_all (hearY2 s t) (i - 10) (by omega)
    rw [show i - 10 + 10 = i by omega] at this; exact this
  by_cases h4 : i < 12
  · have := allB_all (hearY3 s t) (i - 11) (by omega)
    rw [show i - 11 + 11 = i by omega] at this; exact this
  by_cases h5 : i < 13
  · have := allB_all (hearY4 s t) (i - 12) (by omega)
    rw [show i - 12 + 12 = i by omega] at this; exact this
  by_cases h6 : i < 14
  · have := allB_all (hearY5 s t) (i - 13) (by omega)
    rw [show i - 13 + 13 = i by omega] at this; exact this
  omega
theorem ansNs (s t : TypeId) (i : Nat) (h0 : 8 ≤ i) (h : i < 14) : okAns s t i = true := by
  by_cases h1 : i < 14
  · have := allB_all (ansN0 s t) (i - 8) (by omega)
    rw [show i - 8 + 8 = i by omega] at this; exact this
  omega
end Go.Proofs.YtdbhmcldfikkmaaGreatDoor
