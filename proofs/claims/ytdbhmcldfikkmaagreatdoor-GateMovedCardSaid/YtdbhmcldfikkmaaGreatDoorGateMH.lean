/- GateMoved: what a gate's functions make of a heap with one gate. -/
import Derived.KernelRfl
import Derived.Test.YtdbhmcldfikkmaaGreatDoorEwCg
import Derived.Test.YtdbhmcldfikkmaaGreatDoorGateKD
namespace Go.Proofs.YtdbhmcldfikkmaaGreatDoor
open Go.RowKit
set_option linter.unusedVariables false
set_option linter.unusedSimpArgs false
set_option maxRecDepth 100000

def gmHook (f : FuncId) : Option (Array Value → LM Value) := none
def gmCut (f : FuncId) : Bool := hasN [88] f
theorem gmHook_ok : ∀ f m, gmHook f = some m → FunOKL Tryz.prog f m := by
  intro f m h
  unfold gmHook at h
  cases h
def gI (n : Nat) : Value := .int .i64 (Int.ofNat n)
def gB (n : Nat) : Value := .int .u8 (Int.ofNat n)
def gmF : Fct := [(.lss, .chan (some 1), .int .i64 1, false), (.gtr, .chan (some 1), .int .i64 6, false)]
def gmA : Arc := [(.rem, .int .i64 1, .chan (some 1), .chan (some 2)), (.add, .int .i64 8, .chan (some 1), .chan (some 3))]
def gmM : Mnc := [(false, .chan (some 1), .int .i64 1, .chan (some 1))]
def gmOrc (F : Fct) : OrcL := ⟨orcOr (fctOrc F) (orcOr (arcOrc gmA) (orcOr (mncOrc gmM) (globOrc [0, 1]))), gmHook, gmCut⟩
/-- who asks is no host: too low, too high -/
def gmFa : Fct := [(.geq, .chan (some 0), .int .i64 8, false)]
def gmFb : Fct := [(.geq, .chan (some 0), .int .i64 8, true), (.lss, .chan (some 0), .chan (some 3), false)]
/-- he is one; so is, or is not, the one that he names -/
def gmFh (n : Int) (b : Bool) : Fct := [(.geq, .chan (some 0), .int .i64 8, true), (.lss, .chan (some 0), .chan (some 3), true), (.lss, .int .i64 n, .chan (some 3), b)]
def gmFc : Fct := [(.geq, .chan (some 0), .int .i64 8, true), (.lss, .chan (some 0), .chan (some 3), true)]
/-- a gate -/
def gmGate (asked : Nat) (op : Bool) (next : Value) (wait : Nat) : List Value := match op with
  | true => [gI 32, .chan (some 1), gI asked, gI 5, gI 1, gI 1, .string ⟨#[97]⟩, .string ⟨#[98]⟩, .string ⟨#[]⟩, .string ⟨#[]⟩, gI 0, gI 0, gI 0, .bool false, gI 0, .bool true, next, gI wait, .slice none 0 0]
  | false => [gI 32, .chan (some 1), gI 0, gI 0, gI 0, gI 0, .string ⟨#[]⟩, .string ⟨#[]⟩, .string ⟨#[]⟩, .string ⟨#[]⟩, gI 0, gI 0, gI 0, .bool false, gI 0, .bool false, gI 0, gI 0, .slice none 0 0]
def gmRow (l : List Value) : Option AObj := some (.row l 59 0 false)
def gmT (s t : TypeId) (g : Option AObj) (more : List (Nat × Option AObj)) : Tr := setAll more (tabsT s t gateLow gateHigh .lf .lf (.nd g .lf .lf))
def gmT0 (s t : TypeId) : Tr := gmT s t (gmRow (gmGate 0 false (gI 0) 0)) []
def gmT1 (s t : TypeId) : Tr := gmT s t (gmRow (gmGate 1 true (gI 0) 0)) []
def gmT2 (s t : TypeId) : Tr := gmT s t (gmRow (gmGate 1 true (.chan (some 2)) 4)) []
/-- behind an answer that names another host -/
def gmT3 (s t : TypeId) (n : Nat) : Tr := gmT s t (gmRow (gmGate 1 true (gI (n - 8)) 4)) []
def gmP : Value := .pointer (some ⟨2, 0, none⟩)
def gmMsgs : List (List Nat) := [[0, 99, 104, 186, 94], [1, 21, 137, 181, 195], [2, 206, 172, 212, 191], [3, 184, 77, 219, 34], [4, 120, 231, 22, 71], [5, 14, 6, 25, 218], [6, 213, 35, 120, 166], [7, 163, 194, 119, 59], [8, 85, 118, 227, 109], [9, 35, 151, 236, 240], [10, 248, 178, 141, 140], [11, 142, 83, 130, 17], [12, 78, 249, 79, 116], [13, 56, 24, 64, 233], [14, 227, 61, 33, 149], [15, 149, 220, 46, 8], [16, 15, 84, 8, 56], [17, 121, 181, 7, 165], [18, 162, 144, 102, 217], [19, 212, 113, 105, 68], [20, 20, 219, 164, 33], [21, 98, 58, 171, 188], [22, 185, 31, 202, 192], [23, 207, 254, 197, 93], [24, 57, 74, 81, 11], [25, 79, 171, 94, 150], [26, 148, 142, 63, 234], [27, 226, 111, 48, 119], [28, 34, 197, 253, 18], [29, 84, 36, 242, 143], [30, 143, 1, 147, 243], [31, 249, 224, 156, 110], [32, 187, 16, 222, 147], [33, 205, 241, 209, 14], [34, 22, 212, 176, 114], [35, 96, 53, 191, 239], [36, 160, 159, 114, 138], [37, 214, 126, 125, 23], [38, 13, 91, 28, 107], [39, 123, 186, 19, 246], [40, 141, 14, 135, 160], [41, 251, 239, 136, 61], [42, 32, 202, 233, 65], [43, 86, 43, 230, 220], [44, 150, 129, 43, 185], [45, 224, 96, 36, 36], [46, 59, 69, 69, 88], [47, 77, 164, 74, 197], [48, 215, 44, 108, 245], [49, 161, 205, 99, 104], [50, 122, 232, 2, 20], [51, 12, 9, 13, 137], [52, 204, 163, 192, 236], [53, 186, 66, 207, 113], [54, 97, 103, 174, 13], [55, 23, 134, 161, 144], [56, 225, 50, 53, 198], [57, 151, 211, 58, 91], [58, 76, 246, 91, 39], [59, 58, 23, 84, 186], [60, 250, 189, 153, 223], [61, 140, 92, 150, 66], [62, 87, 121, 247, 62], [63, 33, 152, 248, 163], [64, 146, 159, 3, 31], [65, 228, 126, 12, 130], [66, 63, 91, 109, 254], [67, 73, 186, 98, 99], [68, 137, 16, 175, 6], [69, 255, 241, 160, 155], [70, 36, 212, 193, 231], [71, 82, 53, 206, 122], [72, 164, 129, 90, 44], [73, 210, 96, 85, 177], [74, 9, 69, 52, 205], [75, 127, 164, 59, 80], [76, 191, 14, 246, 53], [77, 201, 239, 249, 168], [78, 18, 202, 152, 212], [79, 100, 43, 151, 73], [80, 254, 163, 177, 121], [81, 136, 66, 190, 228], [82, 83, 103, 223, 152], [83, 37, 134, 208, 5], [84, 229, 44, 29, 96], [85, 147, 205, 18, 253], [86, 72, 232, 115, 129], [87, 62, 9, 124, 28], [88, 200, 189, 232, 74], [89, 190, 92, 231, 215], [90, 101, 121, 134, 171], [91, 19, 152, 137, 54], [92, 211, 50, 68, 83], [93, 165, 211, 75, 206], [94, 126, 246, 42, 178], [95, 8, 23, 37, 47], [96, 74, 231, 103, 210], [97, 60, 6, 104, 79], [98, 231, 35, 9, 51], [99, 145, 194, 6, 174], [100, 81, 104, 203, 203]]
def gmMsg (n : Nat) : List Value := let x := gmMsgs.getD n []
  [gB 20, gB 0, gB 0, gB 0, gB 212, gB 31, gB 63, gB 254, gB 6, gB 0, gB 0, gB 0, gB 0, gB 0, gB (x.getD 0 0), gB 15, gB 0, gB 0, gB 5, gB 1, gB 1, gB 6, gB 0, gB 0, gB 0, gB 0, gB 0, gB 0, gB (x.getD 1 0), gB (x.getD 2 0), gB (x.getD 3 0), gB (x.getD 4 0)]
def gmMsgRow (n : Nat) : Option AObj := some (.row (gmMsg n) 5 1 false)
def gmTm (s t : TypeId) (n : Nat) : Tr := gmT s t (gmRow (gmGate 1 true (.chan (some 2)) 4)) [(97, gmMsgRow n)]
def gmW (n : Int) : Value := .agg #[gI 6, gI 0, gI 0, gI 0, gI 0, gI 0, .int .i64 n, gI 15, .string ⟨#[]⟩, .string ⟨#[]⟩, gI 5, gI 1, gI 1, .string ⟨#[]⟩, .string ⟨#[]⟩, .string ⟨#[]⟩, .string ⟨#[]⟩, gI 0, gI 0, gI 0, .bool false, gI 0, gI 0, gI 0, gI 0, gI 0, gI 0, gI 0, gI 0, gI 0, .slice none 0 0, gI 0, gI 0, gI 0, gI 0, .string ⟨#[]⟩, .slice none 0 0]
def gmSl : Value := .slice (some ⟨97, 0, none⟩) 32 capTop
def gmMv : Value := .agg #[.chan (some 0), gI 32, gmSl]
/-- what is asked of the other host -/
def gmT4 (s t : TypeId) (n : Nat) : Tr := gmT s t (gmRow (gmGate 1 true (gI (n - 8)) 4)) [(249, some (.row [gI 32, gI n, .slice (some ⟨243, 0, none⟩) 37 37] 52 0 false))]
def nilS : Value := .slice none 0 0
theorem gmNew (s t : TypeId) : runToG Tryz.prog (gmOrc gmF) (cFnL Tryz.prog) noTab 5 [gI 32, .chan (some 1)] (twoRows gateLow gateHigh s t) 2 (gmT0 s t) 3 (.tuple #[gmP, gI 0]) = true := by kernel_rfl
theorem gmLook (s t : TypeId) : runToG Tryz.prog (gmOrc gmF) (cFnL Tryz.prog) noTab 7 [] (gmT0 s t) 3 (gmT0 s t) 3 (.agg #[gI 5, gI 0, gI 0, .string ⟨#[97]⟩, .string ⟨#[98]⟩, .string ⟨#[]⟩, .string ⟨#[]⟩, gI 0, gI 0, gI 0, .bool false, gI 0]) = true := by kernel_rfl
theorem gmSubmit (s t : TypeId) : runToG Tryz.prog (gmOrc gmF) (cFnL Tryz.prog) noTab 6 [gmP, .agg #[gI 5, gI 0, gI 0, .string ⟨#[97]⟩, .string ⟨#[98]⟩, .string ⟨#[]⟩, .string ⟨#[]⟩, gI 0, gI 0, gI 0, .bool false, gI 0]] (gmT0 s t) 3 (gmT1 s t) 3 (.tuple #[.agg #[gI 5, gI 1, gI 1, .string ⟨#[97]⟩, .string ⟨#[98]⟩, .string ⟨#[]⟩, .string ⟨#[]⟩, gI 0, gI 0, gI 0, .bool false, gI 0], gI 0]) = true := by kernel_rfl
theorem gmTick (s t : TypeId) : runToG Tryz.prog (gmOrc gmF) (cFnL Tryz.prog) noTab 8 [gmP] (gmT1 s t) 3 (gmT2 s t) 102 (.slice (some ⟨101, 0, none⟩) 1 1) = true := by kernel_rfl
theorem gmHearA (s t : TypeId) : runToG Tryz.prog (gmOrc gmFa) (cFnL Tryz.prog) noTab 9 [gmP, gmMv] (gmT2 s t) 98 (gmT2 s t) 98 nilS = true := by kernel_rfl
theorem gmHearB (s t : TypeId) : runToG Tryz.prog (gmOrc gmFb) (cFnL Tryz.prog) noTab 9 [gmP, gmMv] (gmT2 s t) 98 (gmT2 s t) 98 nilS = true := by kernel_rfl
def allB (f : Nat → Bool) : Nat → Bool
  | 0 => true
  | n + 1 => f n && allB f n
theorem allB_all {f : Nat → Bool} : ∀ {n : Nat}, allB f n = true → ∀ i, i < n → f i = true
  | 0, _, i, hi => absurd hi (Nat.not_lt_zero i)
  | n + 1, h, i, hi => by
    simp only [allB, Bool.and_eq_true] at h
    by_cases e : i = n
    · subst e; exact h.1
    · exact allB_all h.2 i (by omega)
noncomputable def okMsg (s t : TypeId) (n : Nat) : Bool := runToG Tryz.prog (gmOrc gmF) (cFnL Tryz.prog) noTab 10 [.chan (some 0), gI 32, gmW (Int.ofNat n)] (gmT2 s t) 3 (gmTm s t n) 98 gmMv
noncomputable def okHearN (F : Fct) (s t : TypeId) (n : Nat) : Bool := runToG Tryz.prog (gmOrc F) (cFnL Tryz.prog) noTab 9 [gmP, gmMv] (gmTm s t n) 98 (gmT2 s t) 98 nilS
noncomputable def okHearY (s t : TypeId) (n : Nat) : Bool := runToG Tryz.prog (gmOrc (gmFh (Int.ofNat n) true)) (cFnL Tryz.prog) noTab 9 [gmP, gmMv] (gmTm s t n) 98 (gmT4 s t n) 250 (.slice (some ⟨249, 0, none⟩) 1 1)
noncomputable def okAns (s t : TypeId) (n : Nat) : Bool := runToG Tryz.prog (gmOrc gmF) (cFnL Tryz.prog) noTab 12 [gmP] (gmT3 s t n) 3 (gmT3 s t n) 3 nilS
end Go.Proofs.YtdbhmcldfikkmaaGreatDoor
