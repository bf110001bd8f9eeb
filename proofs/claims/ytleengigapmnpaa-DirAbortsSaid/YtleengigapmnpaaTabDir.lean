/- The program's functions, made ready. -/
import Derived.Test.YtleengigapmnpaaEvS
import Derived.Test.YtleengigapmnpaaEvZc
namespace Go.Proofs.Ytleengigapmnpaa
set_option linter.unusedVariables false
set_option maxRecDepth 100000
def cf7 (P : Program) : FF := ⟨83, (.seq (.seqr [⟨(.mv (.val (.bool false))), opAt P 7 0 0, (some (pth 4)), none⟩])
(.seq (.seq (.seqr [⟨(.mv (.tmp (pth 0))), opAt P 7 1 0, (some (pth 13)), none⟩,
⟨(.bin .lss (.tmp (pth 13)) (.val (.int .i64 (9)))), opAt P 7 1 1, (some (pth 14)), none⟩,
⟨(.mv (.tmp (pth 14))), opAt P 7 1 2, (some (pth 15)), none⟩,
⟨(.mv (.tmp (pth 0))), opAt P 7 1 3, (some (pth 16)), (some ((pth 15), false))⟩,
⟨(.bin .gtr (.tmp (pth 16)) (.val (.int .i64 (13)))), opAt P 7 1 4, (some (pth 17)), (some ((pth 15), false))⟩,
⟨(.pick (.tmp (pth 15)) (.val (.bool true)) (.tmp (pth 17))), opAt P 7 1 5, (some (pth 18)), none⟩,
⟨(.mv (.tmp (pth 18))), opAt P 7 1 6, (some (pth 19)), none⟩,
⟨(.mv (.tmp (pth 1))), opAt P 7 1 7, (some (pth 20)), (some ((pth 19), false))⟩,
⟨(.bin .lss (.tmp (pth 20)) (.val (.int .i64 (0)))), opAt P 7 1 8, (some (pth 21)), (some ((pth 19), false))⟩,
⟨(.pick (.tmp (pth 19)) (.val (.bool true)) (.tmp (pth 21))), opAt P 7 1 9, (some (pth 22)), none⟩,
⟨(.mv (.tmp (pth 22))), opAt P 7 1 10, (some (pth 23)), none⟩,
⟨(.mv (.tmp (pth 1))), opAt P 7 1 11, (some (pth 24)), (some ((pth 23), false))⟩,
⟨(.bin .gtr (.tmp (pth 24)) (.val (.int .i64 (30)))), opAt P 7 1 12, (some (pth 25)), (some ((pth 23), false))⟩,
⟨(.pick (.tmp (pth 23)) (.val (.bool true)) (.tmp (pth 25))), opAt P 7 1 13, (some (pth 26)), none⟩])
(.cond (.tmp (pth 26)) (.seq (.seqr [⟨(.call 23 []), opAt P 7 2 0, (some (pth 27)), none⟩,
⟨(.mv (.tmp (pth 27))), opAt P 7 2 1, (some (pth 4)), none⟩])
.ret)
.skip))
(.seq (.seqr [⟨.slow, opAt P 7 3 0, (some (pth 29)), none⟩,
⟨(.call 24 [(.tmp (pth 29))]), opAt P 7 3 1, (some (pth 30)), none⟩,
⟨(.mv (.tmp (pth 30))), opAt P 7 3 2, (some (pth 28)), none⟩,
⟨(.ext (.tmp (pth 28)) 0), opAt P 7 3 3, (some (pth 31)), none⟩,
⟨(.ext (.tmp (pth 28)) 1), opAt P 7 3 4, (some (pth 32)), none⟩,
⟨(.mv (.tmp (pth 31))), opAt P 7 3 5, (some (pth 5)), none⟩,
⟨(.mv (.tmp (pth 32))), opAt P 7 3 6, (some (pth 6)), none⟩])
(.seq (.seq (.seqr [⟨(.mv (.tmp (pth 6))), opAt P 7 4 0, (some (pth 33)), none⟩,
⟨(.bin .neq (.tmp (pth 33)) (.val (.int .i64 (0)))), opAt P 7 4 1, (some (pth 34)), none⟩,
⟨(.mv (.tmp (pth 34))), opAt P 7 4 2, (some (pth 35)), none⟩,
⟨(.mv (.tmp (pth 5))), opAt P 7 4 3, (some (pth 36)), (some ((pth 35), false))⟩,
⟨(.bin .eql (.tmp (pth 36)) (.val (.pointer none))), opAt P 7 4 4, (some (pth 37)), (some ((pth 35), false))⟩,
⟨(.pick (.tmp (pth 35)) (.val (.bool true)) (.tmp (pth 37))), opAt P 7 4 5, (some (pth 38)), none⟩])
(.cond (.tmp (pth 38)) (.seq (.seqr [⟨(.mv (.val (.bool false))), opAt P 7 5 0, (some (pth 4)), none⟩])
.ret)
.skip))
(.seq (.seq (.seqr [⟨(.mv (.val (.int .i64 (0)))), opAt P 7 6 0, (some (pth 7)), none⟩])
(.block 0 (.loop (.seq (.seq (.seqr [⟨(.mv (.tmp (pth 7))), opAt P 7 7 0, (some (pth 39)), none⟩,
⟨(.mv (.tmp (pth 1))), opAt P 7 7 1, (some (pth 40)), none⟩,
⟨(.bin .lss (.tmp (pth 39)) (.tmp (pth 40))), opAt P 7 7 2, (some (pth 41)), none⟩])
(.cond (.tmp (pth 41)) .skip
(.exit 0)))
(.seq (.block 1 (.seq (.seqr [⟨(.mv (.tmp (pth 5))), opAt P 7 8 0, (some (pth 44)), none⟩,
⟨(.mv (.tmp (pth 0))), opAt P 7 8 1, (some (pth 45)), none⟩,
⟨.slow, opAt P 7 8 2, (some (pth 46)), none⟩,
⟨(.call 25 [(.tmp (pth 44)), (.tmp (pth 46))]), opAt P 7 8 3, (some (pth 47)), none⟩,
⟨(.mv (.tmp (pth 47))), opAt P 7 8 4, (some (pth 8)), none⟩])
(.seq (.seqr [⟨(.mv (.tmp (pth 5))), opAt P 7 9 0, (some (pth 48)), none⟩,
⟨(.mv (.tmp (pth 7))), opAt P 7 9 1, (some (pth 49)), none⟩,
⟨(.bin .add (.tmp (pth 49)) (.val (.int .i64 (1)))), opAt P 7 9 2, (some (pth 50)), none⟩,
⟨.slow, opAt P 7 9 3, (some (pth 51)), none⟩,
⟨(.call 25 [(.tmp (pth 48)), (.tmp (pth 51))]), opAt P 7 9 4, (some (pth 52)), none⟩,
⟨(.mv (.tmp (pth 52))), opAt P 7 9 5, (some (pth 9)), none⟩])
(.seq (.seqr [⟨(.mv (.tmp (pth 5))), opAt P 7 10 0, (some (pth 53)), none⟩,
⟨(.mv (.tmp (pth 7))), opAt P 7 10 1, (some (pth 54)), none⟩,
⟨(.bin .add (.tmp (pth 54)) (.val (.int .i64 (1)))), opAt P 7 10 2, (some (pth 55)), none⟩,
⟨.slow, opAt P 7 10 3, (some (pth 56)), none⟩,
⟨(.call 25 [(.tmp (pth 53)), (.tmp (pth 56))]), opAt P 7 10 4, (some (pth 57)), none⟩,
⟨(.mv (.tmp (pth 57))), opAt P 7 10 5, (some (pth 10)), none⟩])
(.seq (.seqr [⟨(.mv (.tmp (pth 8))), opAt P 7 11 0, (some (pth 58)), none⟩,
⟨(.un .not (.tmp (pth 58))), opAt P 7 11 1, (some (pth 59)), none⟩,
⟨(.mv (.tmp (pth 59))), opAt P 7 11 2, (some (pth 60)), none⟩,
⟨(.mv (.tmp (pth 9))), opAt P 7 11 3, (some (pth 61)), (some ((pth 60), false))⟩,
⟨(.un .not (.tmp (pth 61))), opAt P 7 11 4, (some (pth 62)), (some ((pth 60), false))⟩,
⟨(.pick (.tmp (pth 60)) (.val (.bool true)) (.tmp (pth 62))), opAt P 7 11 5, (some (pth 63)), none⟩,
⟨(.mv (.tmp (pth 63))), opAt P 7 11 6, (some (pth 64)), none⟩,
⟨(.mv (.tmp (pth 10))), opAt P 7 11 7, (some (pth 65)), (some ((pth 64), false))⟩,
⟨(.pick (.tmp (pth 64)) (.val (.bool true)) (.tmp (pth 65))), opAt P 7 11 8, (some (pth 66)), none⟩])
(.cond (.tmp (pth 66)) (.seq (.seqr [⟨(.mv (.val (.bool false))), opAt P 7 12 0, (some (pth 4)), none⟩])
.ret)
.skip))))))
(.seqr [⟨(.mv (.tmp (pth 7))), opAt P 7 13 0, (some (pth 42)), none⟩,
⟨(.bin .add (.tmp (pth 42)) (.val (.int .i64 (1)))), opAt P 7 13 1, (some (pth 43)), none⟩,
⟨(.mv (.tmp (pth 43))), opAt P 7 13 2, (some (pth 7)), none⟩]))))))
(.seq (.seqr [⟨(.mv (.tmp (pth 5))), opAt P 7 14 0, (some (pth 68)), none⟩,
⟨(.call 27 [(.tmp (pth 68)), (.val (.string ⟨#[107]⟩))]), opAt P 7 14 1, (some (pth 69)), none⟩,
⟨(.mv (.tmp (pth 69))), opAt P 7 14 2, (some (pth 67)), none⟩,
⟨(.ext (.tmp (pth 67)) 0), opAt P 7 14 3, (some (pth 70)), none⟩,
⟨(.ext (.tmp (pth 67)) 1), opAt P 7 14 4, (some (pth 71)), none⟩,
⟨.slow, opAt P 7 14 5, (some (pth 11)), none⟩,
⟨(.st 58 (.tmp (pth 11)) (.tmp (pth 70))), opAt P 7 14 6, none, none⟩,
⟨(.mv (.tmp (pth 71))), opAt P 7 14 7, (some (pth 12)), none⟩])
(.seq (.seqr [⟨(.mv (.tmp (pth 12))), opAt P 7 15 0, (some (pth 72)), none⟩,
⟨(.mv (.tmp (pth 72))), opAt P 7 15 1, (some (pth 73)), none⟩,
⟨(.ld 58 (.tmp (pth 11))), opAt P 7 15 2, (some (pth 74)), (some ((pth 73), true))⟩,
⟨(.mv (.tmp (pth 1))), opAt P 7 15 3, (some (pth 75)), (some ((pth 73), true))⟩,
⟨(.bin .add (.tmp (pth 75)) (.val (.int .i64 (1)))), opAt P 7 15 4, (some (pth 76)), (some ((pth 73), true))⟩,
⟨.slow, opAt P 7 15 5, (some (pth 77)), (some ((pth 73), true))⟩,
⟨(.bin .eql (.tmp (pth 74)) (.tmp (pth 77))), opAt P 7 15 6, (some (pth 78)), (some ((pth 73), true))⟩,
⟨(.pick (.tmp (pth 73)) (.tmp (pth 78)) (.val (.bool false))), opAt P 7 15 7, (some (pth 79)), none⟩,
⟨(.mv (.tmp (pth 79))), opAt P 7 15 8, (some (pth 80)), none⟩,
⟨(.call 23 []), opAt P 7 15 9, (some (pth 81)), (some ((pth 80), true))⟩,
⟨(.pick (.tmp (pth 80)) (.tmp (pth 81)) (.val (.bool false))), opAt P 7 15 10, (some (pth 82)), none⟩,
⟨(.mv (.tmp (pth 82))), opAt P 7 15 11, (some (pth 4)), none⟩])
.ret))))))), [.tmp (pth 4)]⟩
theorem cf7_ok : cFn Try.prog 7 = some (cf7 Try.prog) := by kernel_rfl
def cf23 (P : Program) : FF := ⟨62, (.seq (.seqr [⟨(.mv (.val (.bool false))), opAt P 23 0 0, (some (pth 0)), none⟩])
(.seq (.seqr [⟨.slow, opAt P 23 1 0, (some (pth 7)), none⟩,
⟨(.call 24 [(.tmp (pth 7))]), opAt P 23 1 1, (some (pth 8)), none⟩,
⟨(.mv (.tmp (pth 8))), opAt P 23 1 2, (some (pth 6)), none⟩,
⟨(.ext (.tmp (pth 6)) 0), opAt P 23 1 3, (some (pth 9)), none⟩,
⟨(.ext (.tmp (pth 6)) 1), opAt P 23 1 4, (some (pth 10)), none⟩,
⟨(.mv (.tmp (pth 9))), opAt P 23 1 5, (some (pth 1)), none⟩,
⟨(.mv (.tmp (pth 10))), opAt P 23 1 6, (some (pth 2)), none⟩])
(.seq (.seq (.seqr [⟨(.mv (.tmp (pth 2))), opAt P 23 2 0, (some (pth 11)), none⟩,
⟨(.bin .neq (.tmp (pth 11)) (.val (.int .i64 (0)))), opAt P 23 2 1, (some (pth 12)), none⟩,
⟨(.mv (.tmp (pth 12))), opAt P 23 2 2, (some (pth 13)), none⟩,
⟨(.mv (.tmp (pth 1))), opAt P 23 2 3, (some (pth 14)), (some ((pth 13), false))⟩,
⟨(.bin .eql (.tmp (pth 14)) (.val (.pointer none))), opAt P 23 2 4, (some (pth 15)), (some ((pth 13), false))⟩,
⟨(.pick (.tmp (pth 13)) (.val (.bool true)) (.tmp (pth 15))), opAt P 23 2 5, (some (pth 16)), none⟩])
(.cond (.tmp (pth 16)) (.seq (.seqr [⟨(.mv (.val (.bool false))), opAt P 23 3 0, (some (pth 0)), none⟩])
.ret)
.skip))
(.seq (.seqr [⟨(.mv (.tmp (pth 1))), opAt P 23 4 0, (some (pth 17)), none⟩,
⟨.slow, opAt P 23 4 1, (some (pth 18)), none⟩,
⟨(.call 25 [(.tmp (pth 17)), (.tmp (pth 18))]), opAt P 23 4 2, (some (pth 19)), none⟩,
⟨(.mv (.tmp (pth 19))), opAt P 23 4 3, (some (pth 3)), none⟩])
(.seq (.seqr [⟨(.mv (.tmp (pth 1))), opAt P 23 5 0, (some (pth 20)), none⟩,
⟨.slow, opAt P 23 5 1, (some (pth 21)), none⟩,
⟨(.call 25 [(.tmp (pth 20)), (.tmp (pth 21))]), opAt P 23 5 2, (some (pth 22)), none⟩,
⟨(.mv (.tmp (pth 22))), opAt P 23 5 3, (some (pth 4)), none⟩])
(.seq (.seqr [⟨(.mv (.tmp (pth 1))), opAt P 23 6 0, (some (pth 23)), none⟩,
⟨(.call 26 [(.tmp (pth 23))]), opAt P 23 6 1, (some (pth 24)), none⟩,
⟨.slow, opAt P 23 6 2, (some (pth 5)), none⟩,
⟨(.st 55 (.tmp (pth 5)) (.tmp (pth 24))), opAt P 23 6 3, none, none⟩])
(.seq (.seqr [⟨(.mv (.tmp (pth 3))), opAt P 23 7 0, (some (pth 25)), none⟩,
⟨(.mv (.tmp (pth 25))), opAt P 23 7 1, (some (pth 26)), none⟩,
⟨(.mv (.tmp (pth 4))), opAt P 23 7 2, (some (pth 27)), (some ((pth 26), true))⟩,
⟨(.pick (.tmp (pth 26)) (.tmp (pth 27)) (.val (.bool false))), opAt P 23 7 3, (some (pth 28)), none⟩,
⟨(.mv (.tmp (pth 28))), opAt P 23 7 4, (some (pth 29)), none⟩,
⟨(.fa (.tmp (pth 5)) 0), opAt P 23 7 5, (some (pth 30)), (some ((pth 29), true))⟩,
⟨(.ld 3 (.tmp (pth 30))), opAt P 23 7 6, (some (pth 31)), (some ((pth 29), true))⟩,
⟨(.bin .eql (.tmp (pth 31)) (.val (.int .i64 (3)))), opAt P 23 7 7, (some (pth 32)), (some ((pth 29), true))⟩,
⟨(.pick (.tmp (pth 29)) (.tmp (pth 32)) (.val (.bool false))), opAt P 23 7 8, (some (pth 33)), none⟩,
⟨(.mv (.tmp (pth 33))), opAt P 23 7 9, (some (pth 34)), none⟩,
⟨(.fa (.tmp (pth 5)) 1), opAt P 23 7 10, (some (pth 35)), (some ((pth 34), true))⟩,
⟨(.ld 3 (.tmp (pth 35))), opAt P 23 7 11, (some (pth 36)), (some ((pth 34), true))⟩,
⟨(.bin .eql (.tmp (pth 36)) (.val (.int .i64 (3)))), opAt P 23 7 12, (some (pth 37)), (some ((pth 34), true))⟩,
⟨(.pick (.tmp (pth 34)) (.tmp (pth 37)) (.val (.bool false))), opAt P 23 7 13, (some (pth 38)), none⟩,
⟨(.mv (.tmp (pth 38))), opAt P 23 7 14, (some (pth 39)), none⟩,
⟨(.fa (.tmp (pth 5)) 2), opAt P 23 7 15, (some (pth 40)), (some ((pth 39), true))⟩,
⟨(.ld 53 (.tmp (pth 40))), opAt P 23 7 16, (some (pth 41)), (some ((pth 39), true))⟩,
⟨.slow, opAt P 23 7 17, (some (pth 42)), (some ((pth 39), true))⟩,
⟨(.bin .eql (.tmp (pth 42)) (.val (.int .i64 (2)))), opAt P 23 7 18, (some (pth 43)), (some ((pth 39), true))⟩,
⟨(.pick (.tmp (pth 39)) (.tmp (pth 43)) (.val (.bool false))), opAt P 23 7 19, (some (pth 44)), none⟩,
⟨(.mv (.tmp (pth 44))), opAt P 23 7 20, (some (pth 45)), none⟩,
⟨(.fa (.tmp (pth 5)) 2), opAt P 23 7 21, (some (pth 46)), (some ((pth 45), true))⟩,
⟨(.ld 53 (.tmp (pth 46))), opAt P 23 7 22, (some (pth 47)), (some ((pth 45), true))⟩,
⟨(.ia (.tmp (pth 47)) (.val (.int .i64 (1))) 9), opAt P 23 7 23, (some (pth 48)), (some ((pth 45), true))⟩,
⟨(.fa (.tmp (pth 48)) 4), opAt P 23 7 24, (some (pth 49)), (some ((pth 45), true))⟩,
⟨(.ld 3 (.tmp (pth 49))), opAt P 23 7 25, (some (pth 50)), (some ((pth 45), true))⟩,
⟨(.bin .eql (.tmp (pth 50)) (.val (.int .i64 (2)))), opAt P 23 7 26, (some (pth 51)), (some ((pth 45), true))⟩,
⟨(.pick (.tmp (pth 45)) (.tmp (pth 51)) (.val (.bool false))), opAt P 23 7 27, (some (pth 52)), none⟩,
⟨(.mv (.tmp (pth 52))), opAt P 23 7 28, (some (pth 53)), none⟩,
⟨(.fa (.tmp (pth 5)) 2), opAt P 23 7 29, (some (pth 54)), (some ((pth 53), true))⟩,
⟨(.ld 53 (.tmp (pth 54))), opAt P 23 7 30, (some (pth 55)), (some ((pth 53), true))⟩,
⟨(.ia (.tmp (pth 55)) (.val (.int .i64 (1))) 9), opAt P 23 7 31, (some (pth 56)), (some ((pth 53), true))⟩,
⟨(.fa (.tmp (pth 56)) 1), opAt P 23 7 32, (some (pth 57)), (some ((pth 53), true))⟩,
⟨(.fa (.tmp (pth 57)) 0), opAt P 23 7 33, (some (pth 58)), (some ((pth 53), true))⟩,
⟨(.ld 9 (.tmp (pth 58))), opAt P 23 7 34, (some (pth 59)), (some ((pth 53), true))⟩,
⟨(.bin .eql (.tmp (pth 59)) (.val (.string ⟨#[109]⟩))), opAt P 23 7 35, (some (pth 60)), (some ((pth 53), true))⟩,
⟨(.pick (.tmp (pth 53)) (.tmp (pth 60)) (.val (.bool false))), opAt P 23 7 36, (some (pth 61)), none⟩,
⟨(.mv (.tmp (pth 61))), opAt P 23 7 37, (some (pth 0)), none⟩])
.ret))))))), [.tmp (pth 0)]⟩
theorem cf23_ok : cFn Try.prog 23 = some (cf23 Try.prog) := by kernel_rfl
def cf24 (P : Program) : FF := ⟨19, (.seq (.seqr [⟨(.mv (.val (.pointer none))), opAt P 24 0 0, (some (pth 2)), none⟩,
⟨(.mv (.val (.int .i64 (0)))), opAt P 24 0 1, (some (pth 3)), none⟩])
(.seq (.seq (.seqr [⟨(.mv (.tmp (pth 0))), opAt P 24 1 0, (some (pth 5)), none⟩,
⟨(.call 48 [(.tmp (pth 5))]), opAt P 24 1 1, (some (pth 6)), none⟩,
⟨(.un .not (.tmp (pth 6))), opAt P 24 1 2, (some (pth 7)), none⟩])
(.cond (.tmp (pth 7)) (.seq (.seqr [⟨(.mv (.val (.pointer none))), opAt P 24 2 0, (some (pth 2)), none⟩,
⟨(.mv (.val (.int .i64 (1)))), opAt P 24 2 1, (some (pth 3)), none⟩])
.ret)
.skip))
(.seq (.seqr [⟨(.mv (.tmp (pth 0))), opAt P 24 3 0, (some (pth 8)), none⟩,
⟨(.ia (.tmp (pth 8)) (.val (.int .i64 (0))) 1), opAt P 24 3 1, (some (pth 9)), none⟩,
⟨(.ld 3 (.tmp (pth 9))), opAt P 24 3 2, (some (pth 10)), none⟩,
⟨.slow, opAt P 24 3 3, (some (pth 11)), none⟩,
⟨.slow, opAt P 24 3 4, (some (pth 4)), none⟩,
⟨(.st 58 (.tmp (pth 4)) (.tmp (pth 11))), opAt P 24 3 5, none, none⟩])
(.seq (.reg [⟨(.mv (.tmp (pth 0))), opAt P 24 4 0, (some (pth 12)), none⟩,
⟨(.call 49 [(.tmp (pth 12))]), opAt P 24 4 1, (some (pth 13)), none⟩,
⟨(.ld 58 (.tmp (pth 4))), opAt P 24 4 2, (some (pth 14)), none⟩,
⟨.slow, opAt P 24 4 3, (some (pth 15)), none⟩,
⟨.slow, opAt P 24 4 4, (some (pth 16)), none⟩,
⟨.slow, opAt P 24 4 5, (some (pth 17)), none⟩,
⟨.slow, opAt P 24 4 6, (some (pth 18)), none⟩,
⟨(.mv (.tmp (pth 18))), opAt P 24 4 7, (some (pth 2)), none⟩,
⟨(.mv (.val (.int .i64 (0)))), opAt P 24 4 8, (some (pth 3)), none⟩] [(1, 2), (1, 3), (1, 4)])
.ret)))), [.tmp (pth 2), .tmp (pth 3)]⟩
theorem cf24_ok : cFn Try.prog 24 = some (cf24 Try.prog) := by kernel_rfl
def cf25 (P : Program) : FF := ⟨50, (.seq (.seqr [⟨.slow, opAt P 25 0 0, (some (pth 3)), none⟩,
⟨(.mv (.val (.bool false))), opAt P 25 0 1, (some (pth 4)), none⟩])
(.seq (.seq (.seqr [⟨(.mv (.tmp (pth 0))), opAt P 25 1 0, (some (pth 6)), none⟩,
⟨(.bin .eql (.tmp (pth 6)) (.val (.pointer none))), opAt P 25 1 1, (some (pth 7)), none⟩,
⟨(.mv (.tmp (pth 7))), opAt P 25 1 2, (some (pth 8)), none⟩,
⟨(.ld 52 (.tmp (pth 3))), opAt P 25 1 3, (some (pth 9)), (some ((pth 8), false))⟩,
⟨(.call 50 [(.tmp (pth 9))]), opAt P 25 1 4, (some (pth 10)), (some ((pth 8), false))⟩,
⟨(.un .not (.tmp (pth 10))), opAt P 25 1 5, (some (pth 11)), (some ((pth 8), false))⟩,
⟨(.pick (.tmp (pth 8)) (.val (.bool true)) (.tmp (pth 11))), opAt P 25 1 6, (some (pth 12)), none⟩,
⟨(.mv (.tmp (pth 12))), opAt P 25 1 7, (some (pth 13)), none⟩,
⟨(.mv (.tmp (pth 0))), opAt P 25 1 8, (some (pth 14)), (some ((pth 13), false))⟩,
⟨(.nc (.tmp (pth 14))), opAt P 25 1 9, (some (pth 15)), (some ((pth 13), false))⟩,
⟨(.fa (.tmp (pth 15)) 1), opAt P 25 1 10, (some (pth 16)), (some ((pth 13), false))⟩,
⟨(.fa (.tmp (pth 16)) 0), opAt P 25 1 11, (some (pth 17)), (some ((pth 13), false))⟩,
⟨(.ld 3 (.tmp (pth 17))), opAt P 25 1 12, (some (pth 18)), (some ((pth 13), false))⟩,
⟨(.bin .geq (.tmp (pth 18)) (.val (.int .i64 (1099511627776)))), opAt P 25 1 13, (some (pth 19)), (some ((pth 13), false))⟩,
⟨(.pick (.tmp (pth 13)) (.val (.bool true)) (.tmp (pth 19))), opAt P 25 1 14, (some (pth 20)), none⟩])
(.cond (.tmp (pth 20)) (.seq (.seqr [⟨(.mv (.val (.bool false))), opAt P 25 2 0, (some (pth 4)), none⟩])
.ret)
.skip))
(.seq (.seqr [⟨(.mv (.tmp (pth 0))), opAt P 25 3 0, (some (pth 21)), none⟩,
⟨(.nc (.tmp (pth 21))), opAt P 25 3 1, (some (pth 22)), none⟩,
⟨(.fa (.tmp (pth 22)) 1), opAt P 25 3 2, (some (pth 23)), none⟩,
⟨(.fa (.tmp (pth 23)) 2), opAt P 25 3 3, (some (pth 24)), none⟩,
⟨(.ld 53 (.tmp (pth 24))), opAt P 25 3 4, (some (pth 25)), none⟩,
⟨.slow, opAt P 25 3 5, (some (pth 26)), none⟩,
⟨(.call 51 [(.tmp (pth 25)), (.tmp (pth 26))]), opAt P 25 3 6, (some (pth 27)), none⟩,
⟨(.mv (.tmp (pth 27))), opAt P 25 3 7, (some (pth 5)), none⟩])
(.seq (.seq (.reg [⟨(.mv (.tmp (pth 5))), opAt P 25 4 0, (some (pth 28)), none⟩,
⟨(.bin .lss (.tmp (pth 28)) (.val (.int .i64 (0)))), opAt P 25 4 1, (some (pth 29)), none⟩,
⟨(.mv (.tmp (pth 29))), opAt P 25 4 2, (some (pth 30)), none⟩,
⟨(.call 53 []), opAt P 25 4 3, (some (pth 31)), (some ((pth 30), false))⟩,
⟨(.fa (.tmp (pth 3)) 0), opAt P 25 4 4, (some (pth 32)), (some ((pth 30), false))⟩,
⟨(.ld 3 (.tmp (pth 32))), opAt P 25 4 5, (some (pth 33)), (some ((pth 30), false))⟩,
⟨.slow, opAt P 25 4 6, (some (pth 34)), (some ((pth 30), false))⟩,
⟨(.mv (.tmp (pth 0))), opAt P 25 4 7, (some (pth 35)), (some ((pth 30), false))⟩,
⟨(.mv (.tmp (pth 5))), opAt P 25 4 8, (some (pth 36)), (some ((pth 30), false))⟩,
⟨(.ld 52 (.tmp (pth 3))), opAt P 25 4 9, (some (pth 37)), (some ((pth 30), false))⟩,
⟨.slow, opAt P 25 4 10, (some (pth 38)), (some ((pth 30), false))⟩,
⟨(.un .not (.tmp (pth 38))), opAt P 25 4 11, (some (pth 39)), (some ((pth 30), false))⟩,
⟨(.pick (.tmp (pth 30)) (.val (.bool true)) (.tmp (pth 39))), opAt P 25 4 12, (some (pth 40)), none⟩] [(3, 5), (3, 9), (5, 9), (6, 9)])
(.cond (.tmp (pth 40)) (.seq (.seqr [⟨(.mv (.val (.bool false))), opAt P 25 5 0, (some (pth 4)), none⟩])
.ret)
.skip))
(.seq (.seqr [⟨(.mv (.tmp (pth 0))), opAt P 25 6 0, (some (pth 41)), none⟩,
⟨(.nc (.tmp (pth 41))), opAt P 25 6 1, (some (pth 42)), none⟩,
⟨(.fa (.tmp (pth 42)) 1), opAt P 25 6 2, (some (pth 43)), none⟩,
⟨(.fa (.tmp (pth 43)) 0), opAt P 25 6 3, (some (pth 44)), none⟩,
⟨(.ld 3 (.tmp (pth 44))), opAt P 25 6 4, (some (pth 45)), none⟩,
⟨(.bin .add (.tmp (pth 45)) (.val (.int .i64 (1)))), opAt P 25 6 5, (some (pth 46)), none⟩,
⟨(.nc (.tmp (pth 41))), opAt P 25 6 6, (some (pth 47)), none⟩,
⟨(.fa (.tmp (pth 47)) 1), opAt P 25 6 7, (some (pth 48)), none⟩,
⟨(.fa (.tmp (pth 48)) 0), opAt P 25 6 8, (some (pth 49)), none⟩,
⟨(.st 3 (.tmp (pth 49)) (.tmp (pth 46))), opAt P 25 6 9, none, none⟩])
(.seq (.seqr [⟨(.mv (.val (.bool true))), opAt P 25 7 0, (some (pth 4)), none⟩])
.ret)))))), [.tmp (pth 4)]⟩
theorem cf25_ok : cFn Try.prog 25 = some (cf25 Try.prog) := by kernel_rfl
def cf26 (P : Program) : FF := ⟨11, (.seq (.seqr [⟨.slow, opAt P 26 0 0, (some (pth 2)), none⟩])
(.seq (.seq (.seqr [⟨(.mv (.tmp (pth 0))), opAt P 26 1 0, (some (pth 3)), none⟩,
⟨(.bin .eql (.tmp (pth 3)) (.val (.pointer none))), opAt P 26 1 1, (some (pth 4)), none⟩])
(.cond (.tmp (pth 4)) (.seq (.seqr [⟨.slow, opAt P 26 2 0, (some (pth 5)), none⟩,
⟨(.st 55 (.tmp (pth 2)) (.tmp (pth 5))), opAt P 26 2 1, none, none⟩])
.ret)
.skip))
(.seq (.seqr [⟨(.mv (.tmp (pth 0))), opAt P 26 3 0, (some (pth 6)), none⟩,
⟨(.nc (.tmp (pth 6))), opAt P 26 3 1, (some (pth 7)), none⟩,
⟨(.fa (.tmp (pth 7)) 1), opAt P 26 3 2, (some (pth 8)), none⟩,
⟨(.ld 55 (.tmp (pth 8))), opAt P 26 3 3, (some (pth 9)), none⟩,
⟨(.call 54 [(.tmp (pth 9))]), opAt P 26 3 4, (some (pth 10)), none⟩,
⟨(.st 55 (.tmp (pth 2)) (.tmp (pth 10))), opAt P 26 3 5, none, none⟩])
.ret))), [.cell (pth 2) 55]⟩
theorem cf26_ok : cFn Try.prog 26 = some (cf26 Try.prog) := by kernel_rfl
def cf27 (P : Program) : FF := ⟨28, (.seq (.seqr [⟨.slow, opAt P 27 0 0, (some (pth 4)), none⟩,
⟨(.mv (.val (.bool false))), opAt P 27 0 1, (some (pth 5)), none⟩])
(.seq (.seq (.seqr [⟨(.mv (.tmp (pth 0))), opAt P 27 1 0, (some (pth 8)), none⟩,
⟨(.bin .eql (.tmp (pth 8)) (.val (.pointer none))), opAt P 27 1 1, (some (pth 9)), none⟩])
(.cond (.tmp (pth 9)) (.seq (.seqr [⟨.slow, opAt P 27 2 0, (some (pth 10)), none⟩,
⟨(.st 58 (.tmp (pth 4)) (.tmp (pth 10))), opAt P 27 2 1, none, none⟩,
⟨(.mv (.val (.bool false))), opAt P 27 2 2, (some (pth 5)), none⟩])
.ret)
.skip))
(.seq (.seq (.seqr [⟨(.mv (.tmp (pth 0))), opAt P 27 3 0, (some (pth 11)), none⟩,
⟨(.nc (.tmp (pth 11))), opAt P 27 3 1, (some (pth 12)), none⟩,
⟨(.fa (.tmp (pth 12)) 1), opAt P 27 3 2, (some (pth 13)), none⟩,
⟨(.fa (.tmp (pth 13)) 2), opAt P 27 3 3, (some (pth 14)), none⟩,
⟨(.ld 53 (.tmp (pth 14))), opAt P 27 3 4, (some (pth 15)), none⟩,
⟨.slow, opAt P 27 3 5, (some (pth 16)), none⟩,
⟨(.mv (.val (.int .i64 (0)))), opAt P 27 3 6, (some (pth 17)), none⟩])
(.block 0 (.loop (.seq (.seqr [⟨(.bin .lss (.tmp (pth 17)) (.tmp (pth 16))), opAt P 27 4 0, (some (pth 18)), none⟩])
(.seq (.cond (.tmp (pth 18)) .skip
(.exit 0))
(.seq (.block 1 (.seq (.seqr [⟨(.ia (.tmp (pth 15)) (.tmp (pth 17)) 9), opAt P 27 5 0, (some (pth 19)), none⟩,
⟨(.ld 58 (.tmp (pth 19))), opAt P 27 5 1, (some (pth 20)), none⟩,
⟨.slow, opAt P 27 5 2, (some (pth 7)), none⟩,
⟨(.st 58 (.tmp (pth 7)) (.tmp (pth 20))), opAt P 27 5 3, none, none⟩])
(.seq (.seqr [⟨(.fa (.tmp (pth 7)) 1), opAt P 27 6 0, (some (pth 21)), none⟩,
⟨(.ld 46 (.tmp (pth 21))), opAt P 27 6 1, (some (pth 22)), none⟩,
⟨(.mv (.tmp (pth 1))), opAt P 27 6 2, (some (pth 23)), none⟩,
⟨(.call 55 [(.tmp (pth 22)), (.tmp (pth 23))]), opAt P 27 6 3, (some (pth 24)), none⟩])
(.cond (.tmp (pth 24)) (.seq (.seqr [⟨(.ld 58 (.tmp (pth 7))), opAt P 27 7 0, (some (pth 25)), none⟩,
⟨(.st 58 (.tmp (pth 4)) (.tmp (pth 25))), opAt P 27 7 1, none, none⟩,
⟨(.mv (.val (.bool true))), opAt P 27 7 2, (some (pth 5)), none⟩])
.ret)
.skip))))
(.seqr [⟨(.bin .add (.tmp (pth 17)) (.val (.int .i64 (1)))), opAt P 27 8 0, (some (pth 26)), none⟩,
⟨(.mv (.tmp (pth 26))), opAt P 27 8 1, (some (pth 17)), none⟩])))))))
(.seq (.seqr [⟨.slow, opAt P 27 9 0, (some (pth 27)), none⟩,
⟨(.st 58 (.tmp (pth 4)) (.tmp (pth 27))), opAt P 27 9 1, none, none⟩,
⟨(.mv (.val (.bool false))), opAt P 27 9 2, (some (pth 5)), none⟩])
.ret)))), [.cell (pth 4) 58, .tmp (pth 5)]⟩
theorem cf27_ok : cFn Try.prog 27 = some (cf27 Try.prog) := by kernel_rfl
def cf48 (P : Program) : FF := ⟨29, (.seq (.seqr [⟨(.mv (.val (.bool false))), opAt P 48 0 0, (some (pth 2)), none⟩])
(.seq (.seq (.seqr [⟨(.mv (.tmp (pth 0))), opAt P 48 1 0, (some (pth 6)), none⟩,
⟨.slow, opAt P 48 1 1, (some (pth 7)), none⟩,
⟨(.bin .lss (.tmp (pth 7)) (.val (.int .i64 (1)))), opAt P 48 1 2, (some (pth 8)), none⟩,
⟨(.mv (.tmp (pth 8))), opAt P 48 1 3, (some (pth 9)), none⟩,
⟨(.mv (.tmp (pth 0))), opAt P 48 1 4, (some (pth 10)), (some ((pth 9), false))⟩,
⟨.slow, opAt P 48 1 5, (some (pth 11)), (some ((pth 9), false))⟩,
⟨(.bin .gtr (.tmp (pth 11)) (.val (.int .i64 (6)))), opAt P 48 1 6, (some (pth 12)), (some ((pth 9), false))⟩,
⟨(.pick (.tmp (pth 9)) (.val (.bool true)) (.tmp (pth 12))), opAt P 48 1 7, (some (pth 13)), none⟩])
(.cond (.tmp (pth 13)) (.seq (.seqr [⟨(.mv (.val (.bool false))), opAt P 48 2 0, (some (pth 2)), none⟩])
.ret)
.skip))
(.seq (.seqr [⟨(.mv (.val (.int .i64 (7)))), opAt P 48 3 0, (some (pth 3)), none⟩])
(.seq (.seq (.seqr [⟨(.mv (.tmp (pth 0))), opAt P 48 4 0, (some (pth 14)), none⟩,
⟨.slow, opAt P 48 4 1, (some (pth 15)), none⟩,
⟨(.mv (.val (.int .i64 (0)))), opAt P 48 4 2, (some (pth 16)), none⟩])
(.block 0 (.loop (.seq (.seqr [⟨(.bin .lss (.tmp (pth 16)) (.tmp (pth 15))), opAt P 48 5 0, (some (pth 17)), none⟩])
(.seq (.cond (.tmp (pth 17)) .skip
(.exit 0))
(.seq (.block 1 (.seq (.seqr [⟨(.ia (.tmp (pth 14)) (.tmp (pth 16)) 1), opAt P 48 6 0, (some (pth 18)), none⟩,
⟨(.ld 3 (.tmp (pth 18))), opAt P 48 6 1, (some (pth 19)), none⟩,
⟨(.mv (.tmp (pth 19))), opAt P 48 6 2, (some (pth 5)), none⟩])
(.seq (.seq (.seqr [⟨(.mv (.tmp (pth 5))), opAt P 48 7 0, (some (pth 20)), none⟩,
⟨(.mv (.tmp (pth 3))), opAt P 48 7 1, (some (pth 21)), none⟩,
⟨(.bin .leq (.tmp (pth 20)) (.tmp (pth 21))), opAt P 48 7 2, (some (pth 22)), none⟩,
⟨(.mv (.tmp (pth 22))), opAt P 48 7 3, (some (pth 23)), none⟩,
⟨(.mv (.tmp (pth 5))), opAt P 48 7 4, (some (pth 24)), (some ((pth 23), false))⟩,
⟨(.bin .geq (.tmp (pth 24)) (.val (.int .i64 (14)))), opAt P 48 7 5, (some (pth 25)), (some ((pth 23), false))⟩,
⟨(.pick (.tmp (pth 23)) (.val (.bool true)) (.tmp (pth 25))), opAt P 48 7 6, (some (pth 26)), none⟩])
(.cond (.tmp (pth 26)) (.seq (.seqr [⟨(.mv (.val (.bool false))), opAt P 48 8 0, (some (pth 2)), none⟩])
.ret)
.skip))
(.seqr [⟨(.mv (.tmp (pth 5))), opAt P 48 9 0, (some (pth 27)), none⟩,
⟨(.mv (.tmp (pth 27))), opAt P 48 9 1, (some (pth 3)), none⟩]))))
(.seqr [⟨(.bin .add (.tmp (pth 16)) (.val (.int .i64 (1)))), opAt P 48 10 0, (some (pth 28)), none⟩,
⟨(.mv (.tmp (pth 28))), opAt P 48 10 1, (some (pth 16)), none⟩])))))))
(.seq (.seqr [⟨(.mv (.val (.bool true))), opAt P 48 11 0, (some (pth 2)), none⟩])
.ret))))), [.tmp (pth 2)]⟩
theorem cf48_ok : cFn Try.prog 48 = some (cf48 Try.prog) := by kernel_rfl
def cf49 (P : Program) : FF := ⟨8, (.seq (.seqr [⟨(.mv (.val (.slice none 0 0))), opAt P 49 0 0, (some (pth 2)), none⟩])
(.seq (.seq (.seqr [⟨(.mv (.tmp (pth 0))), opAt P 49 1 0, (some (pth 3)), none⟩,
⟨(.bin .eql (.tmp (pth 3)) (.val (.slice none 0 0))), opAt P 49 1 1, (some (pth 4)), none⟩])
(.cond (.tmp (pth 4)) (.seq (.seqr [⟨(.mv (.val (.slice none 0 0))), opAt P 49 2 0, (some (pth 2)), none⟩])
.ret)
.skip))
(.seq (.seqr [⟨.slow, opAt P 49 3 0, (some (pth 5)), none⟩,
⟨(.mv (.tmp (pth 0))), opAt P 49 3 1, (some (pth 6)), none⟩,
⟨.slow, opAt P 49 3 2, (some (pth 7)), none⟩,
⟨(.mv (.tmp (pth 7))), opAt P 49 3 3, (some (pth 2)), none⟩])
.ret))), [.tmp (pth 2)]⟩
theorem cf49_ok : cFn Try.prog 49 = some (cf49 Try.prog) := by kernel_rfl
def cf50 (P : Program) : FF := ⟨51, (.seq (.seqr [⟨.slow, opAt P 50 0 0, (some (pth 1)), none⟩,
⟨(.mv (.val (.bool false))), opAt P 50 0 1, (some (pth 2)), none⟩])
(.seq (.seqr [⟨(.fa (.tmp (pth 1)) 0), opAt P 50 1 0, (some (pth 5)), none⟩,
⟨(.ld 3 (.tmp (pth 5))), opAt P 50 1 1, (some (pth 6)), none⟩,
⟨(.fa (.tmp (pth 1)) 1), opAt P 50 1 2, (some (pth 7)), none⟩,
⟨(.ld 3 (.tmp (pth 7))), opAt P 50 1 3, (some (pth 8)), none⟩,
⟨.slow, opAt P 50 1 4, (some (pth 9)), none⟩,
⟨.slow, opAt P 50 1 5, (some (pth 3)), none⟩,
⟨(.st 52 (.tmp (pth 3)) (.tmp (pth 9))), opAt P 50 1 6, none, none⟩])
(.seq (.seqr [⟨(.mv (.val (.bool false))), opAt P 50 2 0, (some (pth 4)), none⟩])
(.seq (.seq (.seqr [⟨(.fa (.tmp (pth 1)) 0), opAt P 50 3 0, (some (pth 10)), none⟩,
⟨(.ld 3 (.tmp (pth 10))), opAt P 50 3 1, (some (pth 11)), none⟩])
(.block 0 (.seq (.seqr [⟨(.bin .eql (.tmp (pth 11)) (.val (.int .i64 (1)))), opAt P 50 4 0, (some (pth 13)), none⟩,
⟨(.mv (.tmp (pth 13))), opAt P 50 4 1, (some (pth 12)), none⟩])
(.cond (.tmp (pth 12)) (.seq (.seqr [⟨(.fa (.tmp (pth 1)) 4), opAt P 50 5 0, (some (pth 14)), none⟩,
⟨(.ld 9 (.tmp (pth 14))), opAt P 50 5 1, (some (pth 15)), none⟩,
⟨(.fa (.tmp (pth 3)) 4), opAt P 50 5 2, (some (pth 16)), none⟩,
⟨(.st 9 (.tmp (pth 16)) (.tmp (pth 15))), opAt P 50 5 3, none, none⟩])
(.seqr [⟨(.fa (.tmp (pth 1)) 4), opAt P 50 6 0, (some (pth 17)), none⟩,
⟨(.ld 9 (.tmp (pth 17))), opAt P 50 6 1, (some (pth 18)), none⟩,
⟨.slow, opAt P 50 6 2, (some (pth 19)), none⟩,
⟨(.call 69 [(.tmp (pth 19)), (.val (.int .i64 (1))), (.val (.int .i64 (16)))]), opAt P 50 6 3, (some (pth 20)), none⟩,
⟨(.mv (.tmp (pth 20))), opAt P 50 6 4, (some (pth 4)), none⟩]))
(.seq (.seqr [⟨(.bin .eql (.tmp (pth 11)) (.val (.int .i64 (2)))), opAt P 50 7 0, (some (pth 22)), none⟩,
⟨(.mv (.tmp (pth 22))), opAt P 50 7 1, (some (pth 21)), none⟩])
(.cond (.tmp (pth 21)) (.seqr [⟨(.mv (.val (.bool true))), opAt P 50 8 0, (some (pth 4)), none⟩])
(.seq (.seqr [⟨(.bin .eql (.tmp (pth 11)) (.val (.int .i64 (3)))), opAt P 50 9 0, (some (pth 24)), none⟩,
⟨(.mv (.tmp (pth 24))), opAt P 50 9 1, (some (pth 23)), none⟩])
(.cond (.tmp (pth 23)) (.seq (.seqr [⟨(.fa (.tmp (pth 1)) 3), opAt P 50 10 0, (some (pth 25)), none⟩,
⟨(.ld 3 (.tmp (pth 25))), opAt P 50 10 1, (some (pth 26)), none⟩,
⟨(.fa (.tmp (pth 3)) 3), opAt P 50 10 2, (some (pth 27)), none⟩,
⟨(.st 3 (.tmp (pth 27)) (.tmp (pth 26))), opAt P 50 10 3, none, none⟩])
(.seqr [⟨(.fa (.tmp (pth 1)) 3), opAt P 50 11 0, (some (pth 28)), none⟩,
⟨(.ld 3 (.tmp (pth 28))), opAt P 50 11 1, (some (pth 29)), none⟩,
⟨(.call 69 [(.tmp (pth 29)), (.val (.int .i64 (1))), (.val (.int .i64 (1048576)))]), opAt P 50 11 2, (some (pth 30)), none⟩,
⟨(.mv (.tmp (pth 30))), opAt P 50 11 3, (some (pth 4)), none⟩]))
(.seq (.seq (.seqr [⟨(.bin .eql (.tmp (pth 11)) (.val (.int .i64 (4)))), opAt P 50 12 0, (some (pth 32)), none⟩,
⟨(.mv (.tmp (pth 32))), opAt P 50 12 1, (some (pth 31)), none⟩])
(.cond (.tmp (pth 31)) .skip
(.seqr [⟨(.bin .eql (.tmp (pth 11)) (.val (.int .i64 (5)))), opAt P 50 13 0, (some (pth 33)), none⟩,
⟨(.mv (.tmp (pth 33))), opAt P 50 13 1, (some (pth 31)), none⟩])))
(.cond (.tmp (pth 31)) (.seq (.seqr [⟨(.fa (.tmp (pth 1)) 2), opAt P 50 14 0, (some (pth 34)), none⟩,
⟨(.ld 3 (.tmp (pth 34))), opAt P 50 14 1, (some (pth 35)), none⟩,
⟨(.fa (.tmp (pth 3)) 2), opAt P 50 14 2, (some (pth 36)), none⟩,
⟨(.st 3 (.tmp (pth 36)) (.tmp (pth 35))), opAt P 50 14 3, none, none⟩])
(.seqr [⟨(.fa (.tmp (pth 1)) 2), opAt P 50 15 0, (some (pth 37)), none⟩,
⟨(.ld 3 (.tmp (pth 37))), opAt P 50 15 1, (some (pth 38)), none⟩,
⟨(.call 69 [(.tmp (pth 38)), (.val (.int .i64 (1))), (.val (.int .i64 (1099511627776)))]), opAt P 50 15 2, (some (pth 39)), none⟩,
⟨(.mv (.tmp (pth 39))), opAt P 50 15 3, (some (pth 4)), none⟩]))
.skip))))))))))
(.seq (.seqr [⟨(.mv (.tmp (pth 4))), opAt P 50 16 0, (some (pth 40)), none⟩,
⟨(.mv (.tmp (pth 40))), opAt P 50 16 1, (some (pth 41)), none⟩,
⟨(.fa (.tmp (pth 1)) 1), opAt P 50 16 2, (some (pth 42)), (some ((pth 41), true))⟩,
⟨(.ld 3 (.tmp (pth 42))), opAt P 50 16 3, (some (pth 43)), (some ((pth 41), true))⟩,
⟨(.call 69 [(.tmp (pth 43)), (.val (.int .i64 (1))), (.val (.int .i64 (1099511627776)))]), opAt P 50 16 4, (some (pth 44)), (some ((pth 41), true))⟩,
⟨(.pick (.tmp (pth 41)) (.tmp (pth 44)) (.val (.bool false))), opAt P 50 16 5, (some (pth 45)), none⟩,
⟨(.mv (.tmp (pth 45))), opAt P 50 16 6, (some (pth 46)), none⟩,
⟨(.ld 52 (.tmp (pth 3))), opAt P 50 16 7, (some (pth 47)), (some ((pth 46), true))⟩,
⟨(.ld 52 (.tmp (pth 1))), opAt P 50 16 8, (some (pth 48)), (some ((pth 46), true))⟩,
⟨(.bin .eql (.tmp (pth 47)) (.tmp (pth 48))), opAt P 50 16 9, (some (pth 49)), (some ((pth 46), true))⟩,
⟨(.pick (.tmp (pth 46)) (.tmp (pth 49)) (.val (.bool false))), opAt P 50 16 10, (some (pth 50)), none⟩,
⟨(.mv (.tmp (pth 50))), opAt P 50 16 11, (some (pth 2)), none⟩])
.ret))))), [.tmp (pth 2)]⟩
theorem cf50_ok : cFn Try.prog 50 = some (cf50 Try.prog) := by kernel_rfl
def cf51 (P : Program) : FF := ⟨19, (.seq (.seqr [⟨(.mv (.val (.int .i64 (0)))), opAt P 51 0 0, (some (pth 4)), none⟩])
(.seq (.seq (.seqr [⟨(.mv (.tmp (pth 0))), opAt P 51 1 0, (some (pth 6)), none⟩,
⟨.slow, opAt P 51 1 1, (some (pth 7)), none⟩,
⟨(.mv (.val (.int .i64 (0)))), opAt P 51 1 2, (some (pth 8)), none⟩])
(.block 0 (.loop (.seq (.seqr [⟨(.bin .lss (.tmp (pth 8)) (.tmp (pth 7))), opAt P 51 2 0, (some (pth 9)), none⟩])
(.seq (.cond (.tmp (pth 9)) .skip
(.exit 0))
(.seq (.block 1 (.seq (.seqr [⟨(.mv (.tmp (pth 8))), opAt P 51 3 0, (some (pth 10)), none⟩,
⟨(.mv (.tmp (pth 10))), opAt P 51 3 1, (some (pth 5)), none⟩])
(.seq (.seqr [⟨(.mv (.tmp (pth 1))), opAt P 51 4 0, (some (pth 11)), none⟩,
⟨(.mv (.tmp (pth 0))), opAt P 51 4 1, (some (pth 12)), none⟩,
⟨(.mv (.tmp (pth 5))), opAt P 51 4 2, (some (pth 13)), none⟩,
⟨(.ia (.tmp (pth 12)) (.tmp (pth 13)) 9), opAt P 51 4 3, (some (pth 14)), none⟩,
⟨(.ld 58 (.tmp (pth 14))), opAt P 51 4 4, (some (pth 15)), none⟩,
⟨.slow, opAt P 51 4 5, (some (pth 16)), none⟩])
(.cond (.tmp (pth 16)) (.seq (.seqr [⟨(.mv (.tmp (pth 5))), opAt P 51 5 0, (some (pth 17)), none⟩,
⟨(.mv (.tmp (pth 17))), opAt P 51 5 1, (some (pth 4)), none⟩])
.ret)
.skip))))
(.seqr [⟨(.bin .add (.tmp (pth 8)) (.val (.int .i64 (1)))), opAt P 51 6 0, (some (pth 18)), none⟩,
⟨(.mv (.tmp (pth 18))), opAt P 51 6 1, (some (pth 8)), none⟩])))))))
(.seq (.seqr [⟨(.mv (.val (.int .i64 (-1)))), opAt P 51 7 0, (some (pth 4)), none⟩])
.ret))), [.tmp (pth 4)]⟩
theorem cf51_ok : cFn Try.prog 51 = some (cf51 Try.prog) := by kernel_rfl
def cf52 (P : Program) : FF := ⟨9, (.seq (.seqr [⟨.slow, opAt P 52 0 0, (some (pth 2)), none⟩,
⟨(.mv (.val (.bool false))), opAt P 52 0 1, (some (pth 3)), none⟩])
(.seq (.seqr [⟨(.fa (.tmp (pth 2)) 0), opAt P 52 1 0, (some (pth 4)), none⟩,
⟨(.ld 3 (.tmp (pth 4))), opAt P 52 1 1, (some (pth 5)), none⟩,
⟨(.fa (.tmp (pth 1)) 1), opAt P 52 1 2, (some (pth 6)), none⟩,
⟨(.ld 3 (.tmp (pth 6))), opAt P 52 1 3, (some (pth 7)), none⟩,
⟨(.bin .eql (.tmp (pth 5)) (.tmp (pth 7))), opAt P 52 1 4, (some (pth 8)), none⟩,
⟨(.mv (.tmp (pth 8))), opAt P 52 1 5, (some (pth 3)), none⟩])
.ret)), [.tmp (pth 3)]⟩
theorem cf52_ok : cFn Try.prog 52 = some (cf52 Try.prog) := by kernel_rfl
def cf53 (P : Program) : FF := ⟨2, (.seq (.seqr [⟨.slow, opAt P 53 0 0, (some (pth 0)), none⟩])
(.seq (.seqr [⟨.slow, opAt P 53 1 0, (some (pth 1)), none⟩,
⟨(.st 115 (.tmp (pth 0)) (.tmp (pth 1))), opAt P 53 1 1, none, none⟩])
.ret)), [.cell (pth 0) 115]⟩
theorem cf53_ok : cFn Try.prog 53 = some (cf53 Try.prog) := by kernel_rfl
def cf54 (P : Program) : FF := ⟨8, (.seq (.seqr [⟨.slow, opAt P 54 0 0, (some (pth 1)), none⟩,
⟨.slow, opAt P 54 0 1, (some (pth 2)), none⟩])
(.seq (.seqr [⟨(.fa (.tmp (pth 1)) 2), opAt P 54 1 0, (some (pth 3)), none⟩,
⟨(.ld 53 (.tmp (pth 3))), opAt P 54 1 1, (some (pth 4)), none⟩,
⟨(.call 75 [(.tmp (pth 4))]), opAt P 54 1 2, (some (pth 5)), none⟩,
⟨(.fa (.tmp (pth 1)) 2), opAt P 54 1 3, (some (pth 6)), none⟩,
⟨(.st 53 (.tmp (pth 6)) (.tmp (pth 5))), opAt P 54 1 4, none, none⟩])
(.seq (.seqr [⟨(.ld 55 (.tmp (pth 1))), opAt P 54 2 0, (some (pth 7)), none⟩,
⟨(.st 55 (.tmp (pth 2)) (.tmp (pth 7))), opAt P 54 2 1, none, none⟩])
.ret))), [.cell (pth 2) 55]⟩
theorem cf54_ok : cFn Try.prog 54 = some (cf54 Try.prog) := by kernel_rfl
def cf55 (P : Program) : FF := ⟨34, (.seq (.seqr [⟨.slow, opAt P 55 0 0, (some (pth 2)), none⟩,
⟨(.mv (.val (.bool false))), opAt P 55 0 1, (some (pth 4)), none⟩])
(.seq (.seqr [⟨(.ld 46 (.tmp (pth 2))), opAt P 55 1 0, (some (pth 5)), none⟩,
⟨(.call 76 [(.tmp (pth 5))]), opAt P 55 1 1, (some (pth 6)), none⟩,
⟨(.mv (.tmp (pth 6))), opAt P 55 1 2, (some (pth 7)), none⟩,
⟨(.mv (.tmp (pth 1))), opAt P 55 1 3, (some (pth 8)), (some ((pth 7), true))⟩,
⟨.slow, opAt P 55 1 4, (some (pth 9)), (some ((pth 7), true))⟩,
⟨(.bin .geq (.tmp (pth 9)) (.val (.int .i64 (1)))), opAt P 55 1 5, (some (pth 10)), (some ((pth 7), true))⟩,
⟨(.pick (.tmp (pth 7)) (.tmp (pth 10)) (.val (.bool false))), opAt P 55 1 6, (some (pth 11)), none⟩,
⟨(.mv (.tmp (pth 11))), opAt P 55 1 7, (some (pth 12)), none⟩,
⟨(.mv (.tmp (pth 1))), opAt P 55 1 8, (some (pth 13)), (some ((pth 12), true))⟩,
⟨.slow, opAt P 55 1 9, (some (pth 14)), (some ((pth 12), true))⟩,
⟨(.bin .leq (.tmp (pth 14)) (.val (.int .i64 (16)))), opAt P 55 1 10, (some (pth 15)), (some ((pth 12), true))⟩,
⟨(.pick (.tmp (pth 12)) (.tmp (pth 15)) (.val (.bool false))), opAt P 55 1 11, (some (pth 16)), none⟩,
⟨(.mv (.tmp (pth 16))), opAt P 55 1 12, (some (pth 17)), none⟩,
⟨(.mv (.tmp (pth 1))), opAt P 55 1 13, (some (pth 18)), (some ((pth 17), true))⟩,
⟨(.fa (.tmp (pth 2)) 0), opAt P 55 1 14, (some (pth 19)), (some ((pth 17), true))⟩,
⟨(.ld 9 (.tmp (pth 19))), opAt P 55 1 15, (some (pth 20)), (some ((pth 17), true))⟩,
⟨(.bin .geq (.tmp (pth 18)) (.tmp (pth 20))), opAt P 55 1 16, (some (pth 21)), (some ((pth 17), true))⟩,
⟨(.pick (.tmp (pth 17)) (.tmp (pth 21)) (.val (.bool false))), opAt P 55 1 17, (some (pth 22)), none⟩,
⟨(.mv (.tmp (pth 22))), opAt P 55 1 18, (some (pth 23)), none⟩,
⟨(.fa (.tmp (pth 2)) 1), opAt P 55 1 19, (some (pth 24)), (some ((pth 23), true))⟩,
⟨(.ld 9 (.tmp (pth 24))), opAt P 55 1 20, (some (pth 25)), (some ((pth 23), true))⟩,
⟨(.bin .eql (.tmp (pth 25)) (.val (.string ⟨#[]⟩))), opAt P 55 1 21, (some (pth 26)), (some ((pth 23), true))⟩,
⟨(.mv (.tmp (pth 26))), opAt P 55 1 22, (some (pth 27)), (some ((pth 23), true))⟩,
⟨(.mv (.tmp (pth 1))), opAt P 55 1 23, (some (pth 28)), (some ((pth 27), false))⟩,
⟨(.fa (.tmp (pth 2)) 1), opAt P 55 1 24, (some (pth 29)), (some ((pth 27), false))⟩,
⟨(.ld 9 (.tmp (pth 29))), opAt P 55 1 25, (some (pth 30)), (some ((pth 27), false))⟩,
⟨(.bin .lss (.tmp (pth 28)) (.tmp (pth 30))), opAt P 55 1 26, (some (pth 31)), (some ((pth 27), false))⟩,
⟨(.pick (.tmp (pth 27)) (.val (.bool true)) (.tmp (pth 31))), opAt P 55 1 27, (some (pth 32)), (some ((pth 23), true))⟩,
⟨(.pick (.tmp (pth 23)) (.tmp (pth 32)) (.val (.bool false))), opAt P 55 1 28, (some (pth 33)), none⟩,
⟨(.mv (.tmp (pth 33))), opAt P 55 1 29, (some (pth 4)), none⟩])
.ret)), [.tmp (pth 4)]⟩
theorem cf55_ok : cFn Try.prog 55 = some (cf55 Try.prog) := by kernel_rfl
def cf69 (P : Program) : FF := ⟨15, (.seq (.seqr [⟨(.mv (.val (.bool false))), opAt P 69 0 0, (some (pth 6)), none⟩])
(.seq (.seqr [⟨(.mv (.tmp (pth 0))), opAt P 69 1 0, (some (pth 7)), none⟩,
⟨(.mv (.tmp (pth 1))), opAt P 69 1 1, (some (pth 8)), none⟩,
⟨(.bin .geq (.tmp (pth 7)) (.tmp (pth 8))), opAt P 69 1 2, (some (pth 9)), none⟩,
⟨(.mv (.tmp (pth 9))), opAt P 69 1 3, (some (pth 10)), none⟩,
⟨(.mv (.tmp (pth 0))), opAt P 69 1 4, (some (pth 11)), (some ((pth 10), true))⟩,
⟨(.mv (.tmp (pth 2))), opAt P 69 1 5, (some (pth 12)), (some ((pth 10), true))⟩,
⟨(.bin .leq (.tmp (pth 11)) (.tmp (pth 12))), opAt P 69 1 6, (some (pth 13)), (some ((pth 10), true))⟩,
⟨(.pick (.tmp (pth 10)) (.tmp (pth 13)) (.val (.bool false))), opAt P 69 1 7, (some (pth 14)), none⟩,
⟨(.mv (.tmp (pth 14))), opAt P 69 1 8, (some (pth 6)), none⟩])
.ret)), [.tmp (pth 6)]⟩
theorem cf69_ok : cFn Try.prog 69 = some (cf69 Try.prog) := by kernel_rfl
def cf70 (P : Program) : FF := ⟨83, (.seq (.seqr [⟨.slow, opAt P 70 0 0, (some (pth 5)), none⟩,
⟨(.mv (.val (.bool false))), opAt P 70 0 1, (some (pth 6)), none⟩])
(.seq (.seqr [⟨(.mv (.tmp (pth 0))), opAt P 70 1 0, (some (pth 11)), none⟩,
⟨(.nc (.tmp (pth 11))), opAt P 70 1 1, (some (pth 12)), none⟩,
⟨(.fa (.tmp (pth 12)) 1), opAt P 70 1 2, (some (pth 13)), none⟩,
⟨(.fa (.tmp (pth 13)) 2), opAt P 70 1 3, (some (pth 14)), none⟩,
⟨(.ld 53 (.tmp (pth 14))), opAt P 70 1 4, (some (pth 15)), none⟩,
⟨(.mv (.tmp (pth 1))), opAt P 70 1 5, (some (pth 16)), none⟩,
⟨(.ia (.tmp (pth 15)) (.tmp (pth 16)) 9), opAt P 70 1 6, (some (pth 17)), none⟩,
⟨(.mv (.tmp (pth 17))), opAt P 70 1 7, (some (pth 7)), none⟩])
(.seq (.reg [⟨(.mv (.tmp (pth 7))), opAt P 70 2 0, (some (pth 19)), none⟩,
⟨(.nc (.tmp (pth 19))), opAt P 70 2 1, (some (pth 20)), none⟩,
⟨(.fa (.tmp (pth 20)) 1), opAt P 70 2 2, (some (pth 21)), none⟩,
⟨(.ld 46 (.tmp (pth 21))), opAt P 70 2 3, (some (pth 22)), none⟩,
⟨(.fa (.tmp (pth 5)) 4), opAt P 70 2 4, (some (pth 23)), none⟩,
⟨(.ld 9 (.tmp (pth 23))), opAt P 70 2 5, (some (pth 24)), none⟩,
⟨(.call 84 [(.tmp (pth 22)), (.tmp (pth 24))]), opAt P 70 2 6, (some (pth 25)), none⟩,
⟨(.mv (.tmp (pth 25))), opAt P 70 2 7, (some (pth 18)), none⟩,
⟨(.ext (.tmp (pth 18)) 0), opAt P 70 2 8, (some (pth 26)), none⟩,
⟨(.ext (.tmp (pth 18)) 1), opAt P 70 2 9, (some (pth 27)), none⟩,
⟨(.ext (.tmp (pth 18)) 2), opAt P 70 2 10, (some (pth 28)), none⟩,
⟨.slow, opAt P 70 2 11, (some (pth 8)), none⟩,
⟨.slow, opAt P 70 2 12, (some (pth 9)), none⟩,
⟨(.st 46 (.tmp (pth 8)) (.tmp (pth 26))), opAt P 70 2 13, none, none⟩,
⟨(.st 46 (.tmp (pth 9)) (.tmp (pth 27))), opAt P 70 2 14, none, none⟩,
⟨(.mv (.tmp (pth 28))), opAt P 70 2 15, (some (pth 10)), none⟩] [(3, 5), (3, 11), (5, 11), (6, 11), (3, 12), (5, 12), (6, 12), (11, 12)])
(.seq (.seq (.reg [⟨(.mv (.tmp (pth 7))), opAt P 70 3 0, (some (pth 29)), none⟩,
⟨(.nc (.tmp (pth 29))), opAt P 70 3 1, (some (pth 30)), none⟩,
⟨(.fa (.tmp (pth 30)) 5), opAt P 70 3 2, (some (pth 31)), none⟩,
⟨(.ld 3 (.tmp (pth 31))), opAt P 70 3 3, (some (pth 32)), none⟩,
⟨(.bin .neq (.tmp (pth 32)) (.val (.int .i64 (0)))), opAt P 70 3 4, (some (pth 33)), none⟩,
⟨(.mv (.tmp (pth 33))), opAt P 70 3 5, (some (pth 34)), none⟩,
⟨(.mv (.tmp (pth 10))), opAt P 70 3 6, (some (pth 35)), (some ((pth 34), false))⟩,
⟨(.un .not (.tmp (pth 35))), opAt P 70 3 7, (some (pth 36)), (some ((pth 34), false))⟩,
⟨(.pick (.tmp (pth 34)) (.val (.bool true)) (.tmp (pth 36))), opAt P 70 3 8, (some (pth 37)), none⟩,
⟨(.mv (.tmp (pth 37))), opAt P 70 3 9, (some (pth 38)), none⟩,
⟨(.mv (.tmp (pth 0))), opAt P 70 3 10, (some (pth 39)), (some ((pth 38), false))⟩,
⟨(.nc (.tmp (pth 39))), opAt P 70 3 11, (some (pth 40)), (some ((pth 38), false))⟩,
⟨(.fa (.tmp (pth 40)) 1), opAt P 70 3 12, (some (pth 41)), (some ((pth 38), false))⟩,
⟨(.fa (.tmp (pth 41)) 2), opAt P 70 3 13, (some (pth 42)), (some ((pth 38), false))⟩,
⟨(.ld 53 (.tmp (pth 42))), opAt P 70 3 14, (some (pth 43)), (some ((pth 38), false))⟩,
⟨.slow, opAt P 70 3 15, (some (pth 44)), (some ((pth 38), false))⟩,
⟨(.mv (.tmp (pth 0))), opAt P 70 3 16, (some (pth 45)), (some ((pth 38), false))⟩,
⟨(.call 91 [(.tmp (pth 45)), (.val (.int .i64 (1)))]), opAt P 70 3 17, (some (pth 46)), (some ((pth 38), false))⟩,
⟨(.bin .add (.tmp (pth 44)) (.tmp (pth 46))), opAt P 70 3 18, (some (pth 47)), (some ((pth 38), false))⟩,
⟨(.bin .geq (.tmp (pth 47)) (.val (.int .i64 (16)))), opAt P 70 3 19, (some (pth 48)), (some ((pth 38), false))⟩,
⟨(.pick (.tmp (pth 38)) (.val (.bool true)) (.tmp (pth 48))), opAt P 70 3 20, (some (pth 49)), none⟩,
⟨(.mv (.tmp (pth 49))), opAt P 70 3 21, (some (pth 50)), none⟩,
⟨(.mv (.tmp (pth 0))), opAt P 70 3 22, (some (pth 51)), (some ((pth 50), false))⟩,
⟨(.nc (.tmp (pth 51))), opAt P 70 3 23, (some (pth 52)), (some ((pth 50), false))⟩,
⟨(.fa (.tmp (pth 52)) 1), opAt P 70 3 24, (some (pth 53)), (some ((pth 50), false))⟩,
⟨(.fa (.tmp (pth 53)) 1), opAt P 70 3 25, (some (pth 54)), (some ((pth 50), false))⟩,
⟨(.ld 3 (.tmp (pth 54))), opAt P 70 3 26, (some (pth 55)), (some ((pth 50), false))⟩,
⟨(.bin .geq (.tmp (pth 55)) (.val (.int .i64 (1099511627776)))), opAt P 70 3 27, (some (pth 56)), (some ((pth 50), false))⟩,
⟨(.pick (.tmp (pth 50)) (.val (.bool true)) (.tmp (pth 56))), opAt P 70 3 28, (some (pth 57)), none⟩] [(14, 17), (15, 17)])
(.cond (.tmp (pth 57)) (.seq (.seqr [⟨(.mv (.val (.bool false))), opAt P 70 4 0, (some (pth 6)), none⟩])
.ret)
.skip))
(.seq (.reg [⟨(.mv (.tmp (pth 7))), opAt P 70 5 0, (some (pth 58)), none⟩,
⟨(.mv (.tmp (pth 7))), opAt P 70 5 1, (some (pth 59)), none⟩,
⟨(.mv (.tmp (pth 7))), opAt P 70 5 2, (some (pth 60)), none⟩,
⟨(.fa (.tmp (pth 5)) 4), opAt P 70 5 3, (some (pth 61)), none⟩,
⟨(.ld 9 (.tmp (pth 61))), opAt P 70 5 4, (some (pth 62)), none⟩,
⟨(.mv (.tmp (pth 0))), opAt P 70 5 5, (some (pth 63)), none⟩,
⟨(.nc (.tmp (pth 63))), opAt P 70 5 6, (some (pth 64)), none⟩,
⟨(.fa (.tmp (pth 64)) 1), opAt P 70 5 7, (some (pth 65)), none⟩,
⟨(.fa (.tmp (pth 65)) 1), opAt P 70 5 8, (some (pth 66)), none⟩,
⟨(.ld 3 (.tmp (pth 66))), opAt P 70 5 9, (some (pth 67)), none⟩,
⟨(.nc (.tmp (pth 58))), opAt P 70 5 10, (some (pth 68)), none⟩,
⟨(.fa (.tmp (pth 68)) 5), opAt P 70 5 11, (some (pth 69)), none⟩,
⟨(.st 3 (.tmp (pth 69)) (.val (.int .i64 (1)))), opAt P 70 5 12, none, none⟩,
⟨(.nc (.tmp (pth 59))), opAt P 70 5 13, (some (pth 70)), none⟩,
⟨(.fa (.tmp (pth 70)) 7), opAt P 70 5 14, (some (pth 71)), none⟩,
⟨(.st 9 (.tmp (pth 71)) (.tmp (pth 62))), opAt P 70 5 15, none, none⟩,
⟨(.nc (.tmp (pth 60))), opAt P 70 5 16, (some (pth 72)), none⟩,
⟨(.fa (.tmp (pth 72)) 8), opAt P 70 5 17, (some (pth 73)), none⟩,
⟨(.st 3 (.tmp (pth 73)) (.tmp (pth 67))), opAt P 70 5 18, none, none⟩] [(4, 9), (4, 12)])
(.seq (.seqr [⟨(.mv (.tmp (pth 0))), opAt P 70 6 0, (some (pth 74)), none⟩,
⟨(.nc (.tmp (pth 74))), opAt P 70 6 1, (some (pth 75)), none⟩,
⟨(.fa (.tmp (pth 75)) 1), opAt P 70 6 2, (some (pth 76)), none⟩,
⟨(.fa (.tmp (pth 76)) 1), opAt P 70 6 3, (some (pth 77)), none⟩,
⟨(.ld 3 (.tmp (pth 77))), opAt P 70 6 4, (some (pth 78)), none⟩,
⟨(.bin .add (.tmp (pth 78)) (.val (.int .i64 (1)))), opAt P 70 6 5, (some (pth 79)), none⟩,
⟨(.nc (.tmp (pth 74))), opAt P 70 6 6, (some (pth 80)), none⟩,
⟨(.fa (.tmp (pth 80)) 1), opAt P 70 6 7, (some (pth 81)), none⟩,
⟨(.fa (.tmp (pth 81)) 1), opAt P 70 6 8, (some (pth 82)), none⟩,
⟨(.st 3 (.tmp (pth 82)) (.tmp (pth 79))), opAt P 70 6 9, none, none⟩])
(.seq (.seqr [⟨(.mv (.val (.bool true))), opAt P 70 7 0, (some (pth 6)), none⟩])
.ret))))))), [.tmp (pth 6)]⟩
theorem cf70_ok : cFn Try.prog 70 = some (cf70 Try.prog) := by kernel_rfl
def cf71 (P : Program) : FF := ⟨76, (.seq (.seqr [⟨.slow, opAt P 71 0 0, (some (pth 5)), none⟩,
⟨(.mv (.val (.bool false))), opAt P 71 0 1, (some (pth 6)), none⟩])
(.seq (.seq (.seqr [⟨(.mv (.tmp (pth 1))), opAt P 71 1 0, (some (pth 9)), none⟩,
⟨(.bin .add (.tmp (pth 9)) (.val (.int .i64 (1)))), opAt P 71 1 1, (some (pth 10)), none⟩,
⟨(.mv (.tmp (pth 0))), opAt P 71 1 2, (some (pth 11)), none⟩,
⟨(.nc (.tmp (pth 11))), opAt P 71 1 3, (some (pth 12)), none⟩,
⟨(.fa (.tmp (pth 12)) 1), opAt P 71 1 4, (some (pth 13)), none⟩,
⟨(.fa (.tmp (pth 13)) 2), opAt P 71 1 5, (some (pth 14)), none⟩,
⟨(.ld 53 (.tmp (pth 14))), opAt P 71 1 6, (some (pth 15)), none⟩,
⟨.slow, opAt P 71 1 7, (some (pth 16)), none⟩,
⟨(.bin .geq (.tmp (pth 10)) (.tmp (pth 16))), opAt P 71 1 8, (some (pth 17)), none⟩])
(.cond (.tmp (pth 17)) (.seq (.seqr [⟨(.mv (.val (.bool false))), opAt P 71 2 0, (some (pth 6)), none⟩])
.ret)
.skip))
(.seq (.reg [⟨(.mv (.tmp (pth 0))), opAt P 71 3 0, (some (pth 18)), none⟩,
⟨(.nc (.tmp (pth 18))), opAt P 71 3 1, (some (pth 19)), none⟩,
⟨(.fa (.tmp (pth 19)) 1), opAt P 71 3 2, (some (pth 20)), none⟩,
⟨(.fa (.tmp (pth 20)) 2), opAt P 71 3 3, (some (pth 21)), none⟩,
⟨(.ld 53 (.tmp (pth 21))), opAt P 71 3 4, (some (pth 22)), none⟩,
⟨(.mv (.tmp (pth 1))), opAt P 71 3 5, (some (pth 23)), none⟩,
⟨(.ia (.tmp (pth 22)) (.tmp (pth 23)) 9), opAt P 71 3 6, (some (pth 24)), none⟩,
⟨(.mv (.tmp (pth 0))), opAt P 71 3 7, (some (pth 25)), none⟩,
⟨(.nc (.tmp (pth 25))), opAt P 71 3 8, (some (pth 26)), none⟩,
⟨(.fa (.tmp (pth 26)) 1), opAt P 71 3 9, (some (pth 27)), none⟩,
⟨(.fa (.tmp (pth 27)) 2), opAt P 71 3 10, (some (pth 28)), none⟩,
⟨(.ld 53 (.tmp (pth 28))), opAt P 71 3 11, (some (pth 29)), none⟩,
⟨(.mv (.tmp (pth 1))), opAt P 71 3 12, (some (pth 30)), none⟩,
⟨(.bin .add (.tmp (pth 30)) (.val (.int .i64 (1)))), opAt P 71 3 13, (some (pth 31)), none⟩,
⟨(.ia (.tmp (pth 29)) (.tmp (pth 31)) 9), opAt P 71 3 14, (some (pth 32)), none⟩,
⟨(.mv (.tmp (pth 24))), opAt P 71 3 15, (some (pth 7)), none⟩,
⟨(.mv (.tmp (pth 32))), opAt P 71 3 16, (some (pth 8)), none⟩] [(4, 11), (4, 13), (11, 13)])
(.seq (.seq (.reg [⟨(.mv (.tmp (pth 7))), opAt P 71 4 0, (some (pth 33)), none⟩,
⟨(.nc (.tmp (pth 33))), opAt P 71 4 1, (some (pth 34)), none⟩,
⟨(.fa (.tmp (pth 34)) 5), opAt P 71 4 2, (some (pth 35)), none⟩,
⟨(.ld 3 (.tmp (pth 35))), opAt P 71 4 3, (some (pth 36)), none⟩,
⟨(.bin .neq (.tmp (pth 36)) (.val (.int .i64 (0)))), opAt P 71 4 4, (some (pth 37)), none⟩,
⟨(.mv (.tmp (pth 37))), opAt P 71 4 5, (some (pth 38)), none⟩,
⟨(.mv (.tmp (pth 8))), opAt P 71 4 6, (some (pth 39)), (some ((pth 38), false))⟩,
⟨(.nc (.tmp (pth 39))), opAt P 71 4 7, (some (pth 40)), (some ((pth 38), false))⟩,
⟨(.fa (.tmp (pth 40)) 5), opAt P 71 4 8, (some (pth 41)), (some ((pth 38), false))⟩,
⟨(.ld 3 (.tmp (pth 41))), opAt P 71 4 9, (some (pth 42)), (some ((pth 38), false))⟩,
⟨(.bin .neq (.tmp (pth 42)) (.val (.int .i64 (0)))), opAt P 71 4 10, (some (pth 43)), (some ((pth 38), false))⟩,
⟨(.pick (.tmp (pth 38)) (.val (.bool true)) (.tmp (pth 43))), opAt P 71 4 11, (some (pth 44)), none⟩,
⟨(.mv (.tmp (pth 44))), opAt P 71 4 12, (some (pth 45)), none⟩,
⟨(.mv (.tmp (pth 7))), opAt P 71 4 13, (some (pth 46)), (some ((pth 45), false))⟩,
⟨(.nc (.tmp (pth 46))), opAt P 71 4 14, (some (pth 47)), (some ((pth 45), false))⟩,
⟨(.fa (.tmp (pth 47)) 3), opAt P 71 4 15, (some (pth 48)), (some ((pth 45), false))⟩,
⟨(.ld 3 (.tmp (pth 48))), opAt P 71 4 16, (some (pth 49)), (some ((pth 45), false))⟩,
⟨(.mv (.tmp (pth 8))), opAt P 71 4 17, (some (pth 50)), (some ((pth 45), false))⟩,
⟨(.nc (.tmp (pth 50))), opAt P 71 4 18, (some (pth 51)), (some ((pth 45), false))⟩,
⟨(.fa (.tmp (pth 51)) 3), opAt P 71 4 19, (some (pth 52)), (some ((pth 45), false))⟩,
⟨(.ld 3 (.tmp (pth 52))), opAt P 71 4 20, (some (pth 53)), (some ((pth 45), false))⟩,
⟨(.bin .neq (.tmp (pth 49)) (.tmp (pth 53))), opAt P 71 4 21, (some (pth 54)), (some ((pth 45), false))⟩,
⟨(.pick (.tmp (pth 45)) (.val (.bool true)) (.tmp (pth 54))), opAt P 71 4 22, (some (pth 55)), none⟩] [(16, 20)])
(.cond (.tmp (pth 55)) (.seq (.seqr [⟨(.mv (.val (.bool false))), opAt P 71 5 0, (some (pth 6)), none⟩])
.ret)
.skip))
(.seq (.seqr [⟨(.mv (.tmp (pth 7))), opAt P 71 6 0, (some (pth 56)), none⟩,
⟨(.mv (.tmp (pth 7))), opAt P 71 6 1, (some (pth 57)), none⟩,
⟨(.mv (.tmp (pth 8))), opAt P 71 6 2, (some (pth 58)), none⟩,
⟨(.nc (.tmp (pth 58))), opAt P 71 6 3, (some (pth 59)), none⟩,
⟨(.fa (.tmp (pth 59)) 0), opAt P 71 6 4, (some (pth 60)), none⟩,
⟨(.ld 3 (.tmp (pth 60))), opAt P 71 6 5, (some (pth 61)), none⟩,
⟨(.nc (.tmp (pth 56))), opAt P 71 6 6, (some (pth 62)), none⟩,
⟨(.fa (.tmp (pth 62)) 5), opAt P 71 6 7, (some (pth 63)), none⟩,
⟨(.st 3 (.tmp (pth 63)) (.val (.int .i64 (2)))), opAt P 71 6 8, none, none⟩,
⟨(.nc (.tmp (pth 57))), opAt P 71 6 9, (some (pth 64)), none⟩,
⟨(.fa (.tmp (pth 64)) 8), opAt P 71 6 10, (some (pth 65)), none⟩,
⟨(.st 3 (.tmp (pth 65)) (.tmp (pth 61))), opAt P 71 6 11, none, none⟩])
(.seq (.seqr [⟨(.mv (.tmp (pth 8))), opAt P 71 7 0, (some (pth 66)), none⟩,
⟨(.mv (.tmp (pth 8))), opAt P 71 7 1, (some (pth 67)), none⟩,
⟨(.mv (.tmp (pth 7))), opAt P 71 7 2, (some (pth 68)), none⟩,
⟨(.nc (.tmp (pth 68))), opAt P 71 7 3, (some (pth 69)), none⟩,
⟨(.fa (.tmp (pth 69)) 0), opAt P 71 7 4, (some (pth 70)), none⟩,
⟨(.ld 3 (.tmp (pth 70))), opAt P 71 7 5, (some (pth 71)), none⟩,
⟨(.nc (.tmp (pth 66))), opAt P 71 7 6, (some (pth 72)), none⟩,
⟨(.fa (.tmp (pth 72)) 5), opAt P 71 7 7, (some (pth 73)), none⟩,
⟨(.st 3 (.tmp (pth 73)) (.val (.int .i64 (2)))), opAt P 71 7 8, none, none⟩,
⟨(.nc (.tmp (pth 67))), opAt P 71 7 9, (some (pth 74)), none⟩,
⟨(.fa (.tmp (pth 74)) 8), opAt P 71 7 10, (some (pth 75)), none⟩,
⟨(.st 3 (.tmp (pth 75)) (.tmp (pth 71))), opAt P 71 7 11, none, none⟩])
(.seq (.seqr [⟨(.mv (.val (.bool true))), opAt P 71 8 0, (some (pth 6)), none⟩])
.ret))))))), [.tmp (pth 6)]⟩
theorem cf71_ok : cFn Try.prog 71 = some (cf71 Try.prog) := by kernel_rfl
def cf72 (P : Program) : FF := ⟨52, (.seq (.seqr [⟨.slow, opAt P 72 0 0, (some (pth 5)), none⟩,
⟨(.mv (.val (.bool false))), opAt P 72 0 1, (some (pth 6)), none⟩])
(.seq (.seqr [⟨(.mv (.tmp (pth 0))), opAt P 72 1 0, (some (pth 8)), none⟩,
⟨(.nc (.tmp (pth 8))), opAt P 72 1 1, (some (pth 9)), none⟩,
⟨(.fa (.tmp (pth 9)) 1), opAt P 72 1 2, (some (pth 10)), none⟩,
⟨(.fa (.tmp (pth 10)) 2), opAt P 72 1 3, (some (pth 11)), none⟩,
⟨(.ld 53 (.tmp (pth 11))), opAt P 72 1 4, (some (pth 12)), none⟩,
⟨(.mv (.tmp (pth 1))), opAt P 72 1 5, (some (pth 13)), none⟩,
⟨(.ia (.tmp (pth 12)) (.tmp (pth 13)) 9), opAt P 72 1 6, (some (pth 14)), none⟩,
⟨(.mv (.tmp (pth 14))), opAt P 72 1 7, (some (pth 7)), none⟩])
(.seq (.seq (.reg [⟨(.mv (.tmp (pth 7))), opAt P 72 2 0, (some (pth 15)), none⟩,
⟨(.nc (.tmp (pth 15))), opAt P 72 2 1, (some (pth 16)), none⟩,
⟨(.fa (.tmp (pth 16)) 5), opAt P 72 2 2, (some (pth 17)), none⟩,
⟨(.ld 3 (.tmp (pth 17))), opAt P 72 2 3, (some (pth 18)), none⟩,
⟨(.bin .neq (.tmp (pth 18)) (.val (.int .i64 (0)))), opAt P 72 2 4, (some (pth 19)), none⟩,
⟨(.mv (.tmp (pth 19))), opAt P 72 2 5, (some (pth 20)), none⟩,
⟨(.mv (.tmp (pth 0))), opAt P 72 2 6, (some (pth 21)), (some ((pth 20), false))⟩,
⟨(.nc (.tmp (pth 21))), opAt P 72 2 7, (some (pth 22)), (some ((pth 20), false))⟩,
⟨(.fa (.tmp (pth 22)) 0), opAt P 72 2 8, (some (pth 23)), (some ((pth 20), false))⟩,
⟨(.ld 65 (.tmp (pth 23))), opAt P 72 2 9, (some (pth 24)), (some ((pth 20), false))⟩,
⟨(.fa (.tmp (pth 5)) 3), opAt P 72 2 10, (some (pth 25)), (some ((pth 20), false))⟩,
⟨(.ld 3 (.tmp (pth 25))), opAt P 72 2 11, (some (pth 26)), (some ((pth 20), false))⟩,
⟨(.call 92 [(.tmp (pth 24)), (.tmp (pth 26))]), opAt P 72 2 12, (some (pth 27)), (some ((pth 20), false))⟩,
⟨(.un .not (.tmp (pth 27))), opAt P 72 2 13, (some (pth 28)), (some ((pth 20), false))⟩,
⟨(.pick (.tmp (pth 20)) (.val (.bool true)) (.tmp (pth 28))), opAt P 72 2 14, (some (pth 29)), none⟩,
⟨(.mv (.tmp (pth 29))), opAt P 72 2 15, (some (pth 30)), none⟩,
⟨(.fa (.tmp (pth 5)) 3), opAt P 72 2 16, (some (pth 31)), (some ((pth 30), false))⟩,
⟨(.ld 3 (.tmp (pth 31))), opAt P 72 2 17, (some (pth 32)), (some ((pth 30), false))⟩,
⟨(.mv (.tmp (pth 7))), opAt P 72 2 18, (some (pth 33)), (some ((pth 30), false))⟩,
⟨(.nc (.tmp (pth 33))), opAt P 72 2 19, (some (pth 34)), (some ((pth 30), false))⟩,
⟨(.fa (.tmp (pth 34)) 3), opAt P 72 2 20, (some (pth 35)), (some ((pth 30), false))⟩,
⟨(.ld 3 (.tmp (pth 35))), opAt P 72 2 21, (some (pth 36)), (some ((pth 30), false))⟩,
⟨(.bin .eql (.tmp (pth 32)) (.tmp (pth 36))), opAt P 72 2 22, (some (pth 37)), (some ((pth 30), false))⟩,
⟨(.pick (.tmp (pth 30)) (.val (.bool true)) (.tmp (pth 37))), opAt P 72 2 23, (some (pth 38)), none⟩,
⟨(.mv (.tmp (pth 38))), opAt P 72 2 24, (some (pth 39)), none⟩,
⟨(.mv (.tmp (pth 0))), opAt P 72 2 25, (some (pth 40)), (some ((pth 39), false))⟩,
⟨(.call 91 [(.tmp (pth 40)), (.val (.int .i64 (3)))]), opAt P 72 2 26, (some (pth 41)), (some ((pth 39), false))⟩,
⟨(.bin .geq (.tmp (pth 41)) (.val (.int .i64 (2)))), opAt P 72 2 27, (some (pth 42)), (some ((pth 39), false))⟩,
⟨(.pick (.tmp (pth 39)) (.val (.bool true)) (.tmp (pth 42))), opAt P 72 2 28, (some (pth 43)), none⟩] [(9, 11), (17, 21)])
(.cond (.tmp (pth 43)) (.seq (.seqr [⟨(.mv (.val (.bool false))), opAt P 72 3 0, (some (pth 6)), none⟩])
.ret)
.skip))
(.seq (.reg [⟨(.mv (.tmp (pth 7))), opAt P 72 4 0, (some (pth 44)), none⟩,
⟨(.mv (.tmp (pth 7))), opAt P 72 4 1, (some (pth 45)), none⟩,
⟨(.fa (.tmp (pth 5)) 3), opAt P 72 4 2, (some (pth 46)), none⟩,
⟨(.ld 3 (.tmp (pth 46))), opAt P 72 4 3, (some (pth 47)), none⟩,
⟨(.nc (.tmp (pth 44))), opAt P 72 4 4, (some (pth 48)), none⟩,
⟨(.fa (.tmp (pth 48)) 5), opAt P 72 4 5, (some (pth 49)), none⟩,
⟨(.st 3 (.tmp (pth 49)) (.val (.int .i64 (3)))), opAt P 72 4 6, none, none⟩,
⟨(.nc (.tmp (pth 45))), opAt P 72 4 7, (some (pth 50)), none⟩,
⟨(.fa (.tmp (pth 50)) 6), opAt P 72 4 8, (some (pth 51)), none⟩,
⟨(.st 3 (.tmp (pth 51)) (.tmp (pth 47))), opAt P 72 4 9, none, none⟩] [(3, 6)])
(.seq (.seqr [⟨(.mv (.val (.bool true))), opAt P 72 5 0, (some (pth 6)), none⟩])
.ret))))), [.tmp (pth 6)]⟩
theorem cf72_ok : cFn Try.prog 72 = some (cf72 Try.prog) := by kernel_rfl
def cf73 (P : Program) : FF := ⟨56, (.seq (.seqr [⟨.slow, opAt P 73 0 0, (some (pth 5)), none⟩,
⟨(.mv (.val (.bool false))), opAt P 73 0 1, (some (pth 6)), none⟩])
(.seq (.seqr [⟨(.mv (.tmp (pth 0))), opAt P 73 1 0, (some (pth 8)), none⟩,
⟨(.nc (.tmp (pth 8))), opAt P 73 1 1, (some (pth 9)), none⟩,
⟨(.fa (.tmp (pth 9)) 1), opAt P 73 1 2, (some (pth 10)), none⟩,
⟨(.fa (.tmp (pth 10)) 2), opAt P 73 1 3, (some (pth 11)), none⟩,
⟨(.ld 53 (.tmp (pth 11))), opAt P 73 1 4, (some (pth 12)), none⟩,
⟨(.mv (.tmp (pth 1))), opAt P 73 1 5, (some (pth 13)), none⟩,
⟨(.ia (.tmp (pth 12)) (.tmp (pth 13)) 9), opAt P 73 1 6, (some (pth 14)), none⟩,
⟨(.ld 58 (.tmp (pth 14))), opAt P 73 1 7, (some (pth 15)), none⟩,
⟨.slow, opAt P 73 1 8, (some (pth 7)), none⟩,
⟨(.st 58 (.tmp (pth 7)) (.tmp (pth 15))), opAt P 73 1 9, none, none⟩])
(.seq (.seq (.seqr [⟨(.fa (.tmp (pth 7)) 5), opAt P 73 2 0, (some (pth 16)), none⟩,
⟨(.ld 3 (.tmp (pth 16))), opAt P 73 2 1, (some (pth 17)), none⟩,
⟨(.bin .eql (.tmp (pth 17)) (.val (.int .i64 (0)))), opAt P 73 2 2, (some (pth 18)), none⟩,
⟨(.mv (.tmp (pth 18))), opAt P 73 2 3, (some (pth 19)), none⟩,
⟨(.fa (.tmp (pth 7)) 4), opAt P 73 2 4, (some (pth 20)), (some ((pth 19), false))⟩,
⟨(.ld 3 (.tmp (pth 20))), opAt P 73 2 5, (some (pth 21)), (some ((pth 19), false))⟩,
⟨(.fa (.tmp (pth 5)) 2), opAt P 73 2 6, (some (pth 22)), (some ((pth 19), false))⟩,
⟨(.ld 3 (.tmp (pth 22))), opAt P 73 2 7, (some (pth 23)), (some ((pth 19), false))⟩,
⟨(.bin .neq (.tmp (pth 21)) (.tmp (pth 23))), opAt P 73 2 8, (some (pth 24)), (some ((pth 19), false))⟩,
⟨(.pick (.tmp (pth 19)) (.val (.bool true)) (.tmp (pth 24))), opAt P 73 2 9, (some (pth 25)), none⟩])
(.cond (.tmp (pth 25)) (.seq (.seqr [⟨(.mv (.val (.bool false))), opAt P 73 3 0, (some (pth 6)), none⟩])
.ret)
.skip))
(.seq (.seq (.seqr [⟨(.fa (.tmp (pth 7)) 5), opAt P 73 4 0, (some (pth 26)), none⟩,
⟨(.ld 3 (.tmp (pth 26))), opAt P 73 4 1, (some (pth 27)), none⟩])
(.block 0 (.seq (.seqr [⟨(.bin .eql (.tmp (pth 27)) (.val (.int .i64 (1)))), opAt P 73 5 0, (some (pth 29)), none⟩,
⟨(.mv (.tmp (pth 29))), opAt P 73 5 1, (some (pth 28)), none⟩])
(.cond (.tmp (pth 28)) (.seq (.seqr [⟨(.mv (.tmp (pth 0))), opAt P 73 6 0, (some (pth 30)), none⟩,
⟨(.mv (.tmp (pth 1))), opAt P 73 6 1, (some (pth 31)), none⟩,
⟨(.call 93 [(.tmp (pth 30)), (.tmp (pth 31))]), opAt P 73 6 2, (some (pth 32)), none⟩,
⟨(.mv (.tmp (pth 32))), opAt P 73 6 3, (some (pth 6)), none⟩])
.ret)
(.seq (.seqr [⟨(.bin .eql (.tmp (pth 27)) (.val (.int .i64 (2)))), opAt P 73 7 0, (some (pth 34)), none⟩,
⟨(.mv (.tmp (pth 34))), opAt P 73 7 1, (some (pth 33)), none⟩])
(.cond (.tmp (pth 33)) (.seq (.seqr [⟨(.mv (.tmp (pth 0))), opAt P 73 8 0, (some (pth 35)), none⟩,
⟨(.mv (.tmp (pth 1))), opAt P 73 8 1, (some (pth 36)), none⟩,
⟨(.call 94 [(.tmp (pth 35)), (.tmp (pth 36))]), opAt P 73 8 2, (some (pth 37)), none⟩,
⟨(.mv (.tmp (pth 37))), opAt P 73 8 3, (some (pth 6)), none⟩])
.ret)
.skip))))))
(.seq (.seq (.seqr [⟨(.fa (.tmp (pth 7)) 4), opAt P 73 9 0, (some (pth 38)), none⟩,
⟨(.ld 3 (.tmp (pth 38))), opAt P 73 9 1, (some (pth 39)), none⟩,
⟨(.bin .geq (.tmp (pth 39)) (.val (.int .i64 (1099511627776)))), opAt P 73 9 2, (some (pth 40)), none⟩])
(.cond (.tmp (pth 40)) (.seq (.seqr [⟨(.mv (.val (.bool false))), opAt P 73 10 0, (some (pth 6)), none⟩])
.ret)
.skip))
(.seq (.seqr [⟨(.fa (.tmp (pth 7)) 6), opAt P 73 11 0, (some (pth 41)), none⟩,
⟨(.ld 3 (.tmp (pth 41))), opAt P 73 11 1, (some (pth 42)), none⟩,
⟨(.fa (.tmp (pth 7)) 3), opAt P 73 11 2, (some (pth 43)), none⟩,
⟨(.st 3 (.tmp (pth 43)) (.tmp (pth 42))), opAt P 73 11 3, none, none⟩])
(.seq (.reg [⟨(.mv (.tmp (pth 0))), opAt P 73 12 0, (some (pth 44)), none⟩,
⟨(.nc (.tmp (pth 44))), opAt P 73 12 1, (some (pth 45)), none⟩,
⟨(.fa (.tmp (pth 45)) 1), opAt P 73 12 2, (some (pth 46)), none⟩,
⟨(.fa (.tmp (pth 46)) 2), opAt P 73 12 3, (some (pth 47)), none⟩,
⟨(.ld 53 (.tmp (pth 47))), opAt P 73 12 4, (some (pth 48)), none⟩,
⟨(.mv (.tmp (pth 1))), opAt P 73 12 5, (some (pth 49)), none⟩,
⟨(.ld 58 (.tmp (pth 7))), opAt P 73 12 6, (some (pth 50)), none⟩,
⟨(.fa (.tmp (pth 7)) 4), opAt P 73 12 7, (some (pth 51)), none⟩,
⟨(.ld 3 (.tmp (pth 51))), opAt P 73 12 8, (some (pth 52)), none⟩,
⟨(.bin .add (.tmp (pth 52)) (.val (.int .i64 (1)))), opAt P 73 12 9, (some (pth 53)), none⟩,
⟨(.call 95 [(.tmp (pth 50)), (.tmp (pth 53))]), opAt P 73 12 10, (some (pth 54)), none⟩,
⟨(.ia (.tmp (pth 48)) (.tmp (pth 49)) 9), opAt P 73 12 11, (some (pth 55)), none⟩,
⟨(.st 58 (.tmp (pth 55)) (.tmp (pth 54))), opAt P 73 12 12, none, none⟩] [(4, 6), (4, 8), (6, 8), (4, 9), (6, 9), (4, 10)])
(.seq (.seqr [⟨(.mv (.val (.bool true))), opAt P 73 13 0, (some (pth 6)), none⟩])
.ret)))))))), [.tmp (pth 6)]⟩
theorem cf73_ok : cFn Try.prog 73 = some (cf73 Try.prog) := by kernel_rfl
def cf74 (P : Program) : FF := ⟨43, (.seq (.seqr [⟨.slow, opAt P 74 0 0, (some (pth 5)), none⟩,
⟨(.mv (.val (.bool false))), opAt P 74 0 1, (some (pth 6)), none⟩])
(.seq (.seqr [⟨(.mv (.tmp (pth 0))), opAt P 74 1 0, (some (pth 8)), none⟩,
⟨(.nc (.tmp (pth 8))), opAt P 74 1 1, (some (pth 9)), none⟩,
⟨(.fa (.tmp (pth 9)) 1), opAt P 74 1 2, (some (pth 10)), none⟩,
⟨(.fa (.tmp (pth 10)) 2), opAt P 74 1 3, (some (pth 11)), none⟩,
⟨(.ld 53 (.tmp (pth 11))), opAt P 74 1 4, (some (pth 12)), none⟩,
⟨(.mv (.tmp (pth 1))), opAt P 74 1 5, (some (pth 13)), none⟩,
⟨(.ia (.tmp (pth 12)) (.tmp (pth 13)) 9), opAt P 74 1 6, (some (pth 14)), none⟩,
⟨(.ld 58 (.tmp (pth 14))), opAt P 74 1 7, (some (pth 15)), none⟩,
⟨.slow, opAt P 74 1 8, (some (pth 7)), none⟩,
⟨(.st 58 (.tmp (pth 7)) (.tmp (pth 15))), opAt P 74 1 9, none, none⟩])
(.seq (.seq (.seqr [⟨(.fa (.tmp (pth 7)) 5), opAt P 74 2 0, (some (pth 16)), none⟩,
⟨(.ld 3 (.tmp (pth 16))), opAt P 74 2 1, (some (pth 17)), none⟩,
⟨(.bin .neq (.tmp (pth 17)) (.val (.int .i64 (3)))), opAt P 74 2 2, (some (pth 18)), none⟩,
⟨(.mv (.tmp (pth 18))), opAt P 74 2 3, (some (pth 19)), none⟩,
⟨(.fa (.tmp (pth 7)) 4), opAt P 74 2 4, (some (pth 20)), (some ((pth 19), false))⟩,
⟨(.ld 3 (.tmp (pth 20))), opAt P 74 2 5, (some (pth 21)), (some ((pth 19), false))⟩,
⟨(.fa (.tmp (pth 5)) 2), opAt P 74 2 6, (some (pth 22)), (some ((pth 19), false))⟩,
⟨(.ld 3 (.tmp (pth 22))), opAt P 74 2 7, (some (pth 23)), (some ((pth 19), false))⟩,
⟨(.bin .neq (.tmp (pth 21)) (.tmp (pth 23))), opAt P 74 2 8, (some (pth 24)), (some ((pth 19), false))⟩,
⟨(.pick (.tmp (pth 19)) (.val (.bool true)) (.tmp (pth 24))), opAt P 74 2 9, (some (pth 25)), none⟩,
⟨(.mv (.tmp (pth 25))), opAt P 74 2 10, (some (pth 26)), none⟩,
⟨(.fa (.tmp (pth 7)) 4), opAt P 74 2 11, (some (pth 27)), (some ((pth 26), false))⟩,
⟨(.ld 3 (.tmp (pth 27))), opAt P 74 2 12, (some (pth 28)), (some ((pth 26), false))⟩,
⟨(.bin .geq (.tmp (pth 28)) (.val (.int .i64 (1099511627776)))), opAt P 74 2 13, (some (pth 29)), (some ((pth 26), false))⟩,
⟨(.pick (.tmp (pth 26)) (.val (.bool true)) (.tmp (pth 29))), opAt P 74 2 14, (some (pth 30)), none⟩])
(.cond (.tmp (pth 30)) (.seq (.seqr [⟨(.mv (.val (.bool false))), opAt P 74 3 0, (some (pth 6)), none⟩])
.ret)
.skip))
(.seq (.reg [⟨(.mv (.tmp (pth 0))), opAt P 74 4 0, (some (pth 31)), none⟩,
⟨(.nc (.tmp (pth 31))), opAt P 74 4 1, (some (pth 32)), none⟩,
⟨(.fa (.tmp (pth 32)) 1), opAt P 74 4 2, (some (pth 33)), none⟩,
⟨(.fa (.tmp (pth 33)) 2), opAt P 74 4 3, (some (pth 34)), none⟩,
⟨(.ld 53 (.tmp (pth 34))), opAt P 74 4 4, (some (pth 35)), none⟩,
⟨(.mv (.tmp (pth 1))), opAt P 74 4 5, (some (pth 36)), none⟩,
⟨(.ld 58 (.tmp (pth 7))), opAt P 74 4 6, (some (pth 37)), none⟩,
⟨(.fa (.tmp (pth 7)) 4), opAt P 74 4 7, (some (pth 38)), none⟩,
⟨(.ld 3 (.tmp (pth 38))), opAt P 74 4 8, (some (pth 39)), none⟩,
⟨(.bin .add (.tmp (pth 39)) (.val (.int .i64 (1)))), opAt P 74 4 9, (some (pth 40)), none⟩,
⟨(.call 95 [(.tmp (pth 37)), (.tmp (pth 40))]), opAt P 74 4 10, (some (pth 41)), none⟩,
⟨(.ia (.tmp (pth 35)) (.tmp (pth 36)) 9), opAt P 74 4 11, (some (pth 42)), none⟩,
⟨(.st 58 (.tmp (pth 42)) (.tmp (pth 41))), opAt P 74 4 12, none, none⟩] [(4, 6), (4, 8), (6, 8), (4, 9), (6, 9), (4, 10)])
(.seq (.seqr [⟨(.mv (.val (.bool true))), opAt P 74 5 0, (some (pth 6)), none⟩])
.ret))))), [.tmp (pth 6)]⟩
theorem cf74_ok : cFn Try.prog 74 = some (cf74 Try.prog) := by kernel_rfl
def cf75 (P : Program) : FF := ⟨8, (.seq (.seqr [⟨(.mv (.val (.slice none 0 0))), opAt P 75 0 0, (some (pth 2)), none⟩])
(.seq (.seq (.seqr [⟨(.mv (.tmp (pth 0))), opAt P 75 1 0, (some (pth 3)), none⟩,
⟨(.bin .eql (.tmp (pth 3)) (.val (.slice none 0 0))), opAt P 75 1 1, (some (pth 4)), none⟩])
(.cond (.tmp (pth 4)) (.seq (.seqr [⟨(.mv (.val (.slice none 0 0))), opAt P 75 2 0, (some (pth 2)), none⟩])
.ret)
.skip))
(.seq (.seqr [⟨.slow, opAt P 75 3 0, (some (pth 5)), none⟩,
⟨(.mv (.tmp (pth 0))), opAt P 75 3 1, (some (pth 6)), none⟩,
⟨.slow, opAt P 75 3 2, (some (pth 7)), none⟩,
⟨(.mv (.tmp (pth 7))), opAt P 75 3 3, (some (pth 2)), none⟩])
.ret))), [.tmp (pth 2)]⟩
theorem cf75_ok : cFn Try.prog 75 = some (cf75 Try.prog) := by kernel_rfl
def cf76 (P : Program) : FF := ⟨25, (.seq (.seqr [⟨.slow, opAt P 76 0 0, (some (pth 1)), none⟩,
⟨(.mv (.val (.bool false))), opAt P 76 0 1, (some (pth 2)), none⟩])
(.seq (.seqr [⟨(.fa (.tmp (pth 1)) 0), opAt P 76 1 0, (some (pth 3)), none⟩,
⟨(.ld 9 (.tmp (pth 3))), opAt P 76 1 1, (some (pth 4)), none⟩,
⟨.slow, opAt P 76 1 2, (some (pth 5)), none⟩,
⟨(.bin .leq (.tmp (pth 5)) (.val (.int .i64 (16)))), opAt P 76 1 3, (some (pth 6)), none⟩,
⟨(.mv (.tmp (pth 6))), opAt P 76 1 4, (some (pth 7)), none⟩,
⟨(.fa (.tmp (pth 1)) 1), opAt P 76 1 5, (some (pth 8)), (some ((pth 7), true))⟩,
⟨(.ld 9 (.tmp (pth 8))), opAt P 76 1 6, (some (pth 9)), (some ((pth 7), true))⟩,
⟨.slow, opAt P 76 1 7, (some (pth 10)), (some ((pth 7), true))⟩,
⟨(.bin .leq (.tmp (pth 10)) (.val (.int .i64 (16)))), opAt P 76 1 8, (some (pth 11)), (some ((pth 7), true))⟩,
⟨(.pick (.tmp (pth 7)) (.tmp (pth 11)) (.val (.bool false))), opAt P 76 1 9, (some (pth 12)), none⟩,
⟨(.mv (.tmp (pth 12))), opAt P 76 1 10, (some (pth 13)), none⟩,
⟨(.fa (.tmp (pth 1)) 1), opAt P 76 1 11, (some (pth 14)), (some ((pth 13), true))⟩,
⟨(.ld 9 (.tmp (pth 14))), opAt P 76 1 12, (some (pth 15)), (some ((pth 13), true))⟩,
⟨(.bin .eql (.tmp (pth 15)) (.val (.string ⟨#[]⟩))), opAt P 76 1 13, (some (pth 16)), (some ((pth 13), true))⟩,
⟨(.mv (.tmp (pth 16))), opAt P 76 1 14, (some (pth 17)), (some ((pth 13), true))⟩,
⟨(.fa (.tmp (pth 1)) 1), opAt P 76 1 15, (some (pth 18)), (some ((pth 17), false))⟩,
⟨(.ld 9 (.tmp (pth 18))), opAt P 76 1 16, (some (pth 19)), (some ((pth 17), false))⟩,
⟨(.fa (.tmp (pth 1)) 0), opAt P 76 1 17, (some (pth 20)), (some ((pth 17), false))⟩,
⟨(.ld 9 (.tmp (pth 20))), opAt P 76 1 18, (some (pth 21)), (some ((pth 17), false))⟩,
⟨(.bin .gtr (.tmp (pth 19)) (.tmp (pth 21))), opAt P 76 1 19, (some (pth 22)), (some ((pth 17), false))⟩,
⟨(.pick (.tmp (pth 17)) (.val (.bool true)) (.tmp (pth 22))), opAt P 76 1 20, (some (pth 23)), (some ((pth 13), true))⟩,
⟨(.pick (.tmp (pth 13)) (.tmp (pth 23)) (.val (.bool false))), opAt P 76 1 21, (some (pth 24)), none⟩,
⟨(.mv (.tmp (pth 24))), opAt P 76 1 22, (some (pth 2)), none⟩])
.ret)), [.tmp (pth 2)]⟩
theorem cf76_ok : cFn Try.prog 76 = some (cf76 Try.prog) := by kernel_rfl
def cf84 (P : Program) : FF := ⟨27, (.seq (.seqr [⟨.slow, opAt P 84 0 0, (some (pth 2)), none⟩,
⟨.slow, opAt P 84 0 1, (some (pth 4)), none⟩,
⟨.slow, opAt P 84 0 2, (some (pth 5)), none⟩,
⟨(.mv (.val (.bool false))), opAt P 84 0 3, (some (pth 6)), none⟩])
(.seq (.seq (.seqr [⟨(.mv (.tmp (pth 1))), opAt P 84 1 0, (some (pth 7)), none⟩,
⟨(.fa (.tmp (pth 2)) 0), opAt P 84 1 1, (some (pth 8)), none⟩,
⟨(.ld 9 (.tmp (pth 8))), opAt P 84 1 2, (some (pth 9)), none⟩,
⟨(.bin .leq (.tmp (pth 7)) (.tmp (pth 9))), opAt P 84 1 3, (some (pth 10)), none⟩,
⟨(.mv (.tmp (pth 10))), opAt P 84 1 4, (some (pth 11)), none⟩,
⟨(.ld 46 (.tmp (pth 2))), opAt P 84 1 5, (some (pth 12)), (some ((pth 11), false))⟩,
⟨(.mv (.tmp (pth 1))), opAt P 84 1 6, (some (pth 13)), (some ((pth 11), false))⟩,
⟨(.call 55 [(.tmp (pth 12)), (.tmp (pth 13))]), opAt P 84 1 7, (some (pth 14)), (some ((pth 11), false))⟩,
⟨(.un .not (.tmp (pth 14))), opAt P 84 1 8, (some (pth 15)), (some ((pth 11), false))⟩,
⟨(.pick (.tmp (pth 11)) (.val (.bool true)) (.tmp (pth 15))), opAt P 84 1 9, (some (pth 16)), none⟩])
(.cond (.tmp (pth 16)) (.seq (.seqr [⟨.slow, opAt P 84 2 0, (some (pth 17)), none⟩,
⟨.slow, opAt P 84 2 1, (some (pth 18)), none⟩,
⟨(.st 46 (.tmp (pth 4)) (.tmp (pth 17))), opAt P 84 2 2, none, none⟩,
⟨(.st 46 (.tmp (pth 5)) (.tmp (pth 18))), opAt P 84 2 3, none, none⟩,
⟨(.mv (.val (.bool false))), opAt P 84 2 4, (some (pth 6)), none⟩])
.ret)
.skip))
(.seq (.reg [⟨(.fa (.tmp (pth 2)) 0), opAt P 84 3 0, (some (pth 19)), none⟩,
⟨(.ld 9 (.tmp (pth 19))), opAt P 84 3 1, (some (pth 20)), none⟩,
⟨(.mv (.tmp (pth 1))), opAt P 84 3 2, (some (pth 21)), none⟩,
⟨.slow, opAt P 84 3 3, (some (pth 22)), none⟩,
⟨(.mv (.tmp (pth 1))), opAt P 84 3 4, (some (pth 23)), none⟩,
⟨(.fa (.tmp (pth 2)) 1), opAt P 84 3 5, (some (pth 24)), none⟩,
⟨(.ld 9 (.tmp (pth 24))), opAt P 84 3 6, (some (pth 25)), none⟩,
⟨.slow, opAt P 84 3 7, (some (pth 26)), none⟩,
⟨(.st 46 (.tmp (pth 4)) (.tmp (pth 22))), opAt P 84 3 8, none, none⟩,
⟨(.st 46 (.tmp (pth 5)) (.tmp (pth 26))), opAt P 84 3 9, none, none⟩,
⟨(.mv (.val (.bool true))), opAt P 84 3 10, (some (pth 6)), none⟩] [(1, 6), (3, 6), (1, 7), (3, 7), (6, 8), (7, 8)])
.ret))), [.cell (pth 4) 46, .cell (pth 5) 46, .tmp (pth 6)]⟩
theorem cf84_ok : cFn Try.prog 84 = some (cf84 Try.prog) := by kernel_rfl
def cf91 (P : Program) : FF := ⟨26, (.seq (.seqr [⟨(.mv (.val (.int .i64 (0)))), opAt P 91 0 0, (some (pth 4)), none⟩])
(.seq (.seqr [⟨(.mv (.val (.int .i64 (0)))), opAt P 91 1 0, (some (pth 5)), none⟩])
(.seq (.seq (.seqr [⟨(.mv (.tmp (pth 0))), opAt P 91 2 0, (some (pth 8)), none⟩,
⟨(.nc (.tmp (pth 8))), opAt P 91 2 1, (some (pth 9)), none⟩,
⟨(.fa (.tmp (pth 9)) 1), opAt P 91 2 2, (some (pth 10)), none⟩,
⟨(.fa (.tmp (pth 10)) 2), opAt P 91 2 3, (some (pth 11)), none⟩,
⟨(.ld 53 (.tmp (pth 11))), opAt P 91 2 4, (some (pth 12)), none⟩,
⟨.slow, opAt P 91 2 5, (some (pth 13)), none⟩,
⟨(.mv (.val (.int .i64 (0)))), opAt P 91 2 6, (some (pth 14)), none⟩])
(.block 0 (.loop (.seq (.seqr [⟨(.bin .lss (.tmp (pth 14)) (.tmp (pth 13))), opAt P 91 3 0, (some (pth 15)), none⟩])
(.seq (.cond (.tmp (pth 15)) .skip
(.exit 0))
(.seq (.block 1 (.seq (.seqr [⟨(.ia (.tmp (pth 12)) (.tmp (pth 14)) 9), opAt P 91 4 0, (some (pth 16)), none⟩,
⟨(.ld 58 (.tmp (pth 16))), opAt P 91 4 1, (some (pth 17)), none⟩,
⟨.slow, opAt P 91 4 2, (some (pth 7)), none⟩,
⟨(.st 58 (.tmp (pth 7)) (.tmp (pth 17))), opAt P 91 4 3, none, none⟩])
(.seq (.seqr [⟨(.fa (.tmp (pth 7)) 5), opAt P 91 5 0, (some (pth 18)), none⟩,
⟨(.ld 3 (.tmp (pth 18))), opAt P 91 5 1, (some (pth 19)), none⟩,
⟨(.mv (.tmp (pth 1))), opAt P 91 5 2, (some (pth 20)), none⟩,
⟨(.bin .eql (.tmp (pth 19)) (.tmp (pth 20))), opAt P 91 5 3, (some (pth 21)), none⟩])
(.cond (.tmp (pth 21)) (.seqr [⟨(.mv (.tmp (pth 5))), opAt P 91 6 0, (some (pth 22)), none⟩,
⟨(.bin .add (.tmp (pth 22)) (.val (.int .i64 (1)))), opAt P 91 6 1, (some (pth 23)), none⟩,
⟨(.mv (.tmp (pth 23))), opAt P 91 6 2, (some (pth 5)), none⟩])
.skip))))
(.seqr [⟨(.bin .add (.tmp (pth 14)) (.val (.int .i64 (1)))), opAt P 91 7 0, (some (pth 24)), none⟩,
⟨(.mv (.tmp (pth 24))), opAt P 91 7 1, (some (pth 14)), none⟩])))))))
(.seq (.seqr [⟨(.mv (.tmp (pth 5))), opAt P 91 8 0, (some (pth 25)), none⟩,
⟨(.mv (.tmp (pth 25))), opAt P 91 8 1, (some (pth 4)), none⟩])
.ret)))), [.tmp (pth 4)]⟩
theorem cf91_ok : cFn Try.prog 91 = some (cf91 Try.prog) := by kernel_rfl
def cf92 (P : Program) : FF := ⟨9, (.seq (.seqr [⟨(.mv (.val (.bool false))), opAt P 92 0 0, (some (pth 4)), none⟩])
(.seq (.seqr [⟨(.mv (.tmp (pth 0))), opAt P 92 1 0, (some (pth 5)), none⟩,
⟨(.mv (.tmp (pth 1))), opAt P 92 1 1, (some (pth 6)), none⟩,
⟨(.call 116 [(.tmp (pth 5)), (.tmp (pth 6))]), opAt P 92 1 2, (some (pth 7)), none⟩,
⟨(.bin .geq (.tmp (pth 7)) (.val (.int .i64 (0)))), opAt P 92 1 3, (some (pth 8)), none⟩,
⟨(.mv (.tmp (pth 8))), opAt P 92 1 4, (some (pth 4)), none⟩])
.ret)), [.tmp (pth 4)]⟩
theorem cf92_ok : cFn Try.prog 92 = some (cf92 Try.prog) := by kernel_rfl
def cf93 (P : Program) : FF := ⟨71, (.seq (.seqr [⟨(.mv (.val (.bool false))), opAt P 93 0 0, (some (pth 4)), none⟩])
(.seq (.seqr [⟨(.mv (.tmp (pth 0))), opAt P 93 1 0, (some (pth 10)), none⟩,
⟨(.nc (.tmp (pth 10))), opAt P 93 1 1, (some (pth 11)), none⟩,
⟨(.fa (.tmp (pth 11)) 1), opAt P 93 1 2, (some (pth 12)), none⟩,
⟨(.fa (.tmp (pth 12)) 2), opAt P 93 1 3, (some (pth 13)), none⟩,
⟨(.ld 53 (.tmp (pth 13))), opAt P 93 1 4, (some (pth 14)), none⟩,
⟨(.mv (.tmp (pth 1))), opAt P 93 1 5, (some (pth 15)), none⟩,
⟨(.ia (.tmp (pth 14)) (.tmp (pth 15)) 9), opAt P 93 1 6, (some (pth 16)), none⟩,
⟨(.ld 58 (.tmp (pth 16))), opAt P 93 1 7, (some (pth 17)), none⟩,
⟨.slow, opAt P 93 1 8, (some (pth 5)), none⟩,
⟨(.st 58 (.tmp (pth 5)) (.tmp (pth 17))), opAt P 93 1 9, none, none⟩])
(.seq (.seqr [⟨(.fa (.tmp (pth 5)) 1), opAt P 93 2 0, (some (pth 19)), none⟩,
⟨(.ld 46 (.tmp (pth 19))), opAt P 93 2 1, (some (pth 20)), none⟩,
⟨(.fa (.tmp (pth 5)) 7), opAt P 93 2 2, (some (pth 21)), none⟩,
⟨(.ld 9 (.tmp (pth 21))), opAt P 93 2 3, (some (pth 22)), none⟩,
⟨(.call 84 [(.tmp (pth 20)), (.tmp (pth 22))]), opAt P 93 2 4, (some (pth 23)), none⟩,
⟨(.mv (.tmp (pth 23))), opAt P 93 2 5, (some (pth 18)), none⟩,
⟨(.ext (.tmp (pth 18)) 0), opAt P 93 2 6, (some (pth 24)), none⟩,
⟨(.ext (.tmp (pth 18)) 1), opAt P 93 2 7, (some (pth 25)), none⟩,
⟨(.ext (.tmp (pth 18)) 2), opAt P 93 2 8, (some (pth 26)), none⟩,
⟨.slow, opAt P 93 2 9, (some (pth 6)), none⟩,
⟨.slow, opAt P 93 2 10, (some (pth 7)), none⟩,
⟨(.st 46 (.tmp (pth 6)) (.tmp (pth 24))), opAt P 93 2 11, none, none⟩,
⟨(.st 46 (.tmp (pth 7)) (.tmp (pth 25))), opAt P 93 2 12, none, none⟩,
⟨(.mv (.tmp (pth 26))), opAt P 93 2 13, (some (pth 8)), none⟩])
(.seq (.seq (.seqr [⟨(.mv (.tmp (pth 8))), opAt P 93 3 0, (some (pth 27)), none⟩,
⟨(.un .not (.tmp (pth 27))), opAt P 93 3 1, (some (pth 28)), none⟩,
⟨(.mv (.tmp (pth 28))), opAt P 93 3 2, (some (pth 29)), none⟩,
⟨(.fa (.tmp (pth 5)) 4), opAt P 93 3 3, (some (pth 30)), (some ((pth 29), false))⟩,
⟨(.ld 3 (.tmp (pth 30))), opAt P 93 3 4, (some (pth 31)), (some ((pth 29), false))⟩,
⟨(.bin .geq (.tmp (pth 31)) (.val (.int .i64 (1099511627776)))), opAt P 93 3 5, (some (pth 32)), (some ((pth 29), false))⟩,
⟨(.pick (.tmp (pth 29)) (.val (.bool true)) (.tmp (pth 32))), opAt P 93 3 6, (some (pth 33)), none⟩])
(.cond (.tmp (pth 33)) (.seq (.seqr [⟨(.mv (.val (.bool false))), opAt P 93 4 0, (some (pth 4)), none⟩])
.ret)
.skip))
(.seq (.seqr [⟨(.fa (.tmp (pth 5)) 8), opAt P 93 5 0, (some (pth 34)), none⟩,
⟨(.ld 3 (.tmp (pth 34))), opAt P 93 5 1, (some (pth 35)), none⟩,
⟨(.ld 46 (.tmp (pth 7))), opAt P 93 5 2, (some (pth 36)), none⟩,
⟨(.fa (.tmp (pth 5)) 3), opAt P 93 5 3, (some (pth 37)), none⟩,
⟨(.ld 3 (.tmp (pth 37))), opAt P 93 5 4, (some (pth 38)), none⟩,
⟨(.fa (.tmp (pth 5)) 4), opAt P 93 5 5, (some (pth 39)), none⟩,
⟨(.ld 3 (.tmp (pth 39))), opAt P 93 5 6, (some (pth 40)), none⟩,
⟨(.bin .add (.tmp (pth 40)) (.val (.int .i64 (1)))), opAt P 93 5 7, (some (pth 41)), none⟩,
⟨.slow, opAt P 93 5 8, (some (pth 42)), none⟩,
⟨.slow, opAt P 93 5 9, (some (pth 9)), none⟩,
⟨(.st 58 (.tmp (pth 9)) (.tmp (pth 42))), opAt P 93 5 10, none, none⟩])
(.seq (.seqr [⟨(.ld 46 (.tmp (pth 6))), opAt P 93 6 0, (some (pth 43)), none⟩,
⟨(.fa (.tmp (pth 5)) 1), opAt P 93 6 1, (some (pth 44)), none⟩,
⟨(.st 46 (.tmp (pth 44)) (.tmp (pth 43))), opAt P 93 6 2, none, none⟩])
(.seq (.reg [⟨(.mv (.tmp (pth 0))), opAt P 93 7 0, (some (pth 45)), none⟩,
⟨(.nc (.tmp (pth 45))), opAt P 93 7 1, (some (pth 46)), none⟩,
⟨(.fa (.tmp (pth 46)) 1), opAt P 93 7 2, (some (pth 47)), none⟩,
⟨(.fa (.tmp (pth 47)) 2), opAt P 93 7 3, (some (pth 48)), none⟩,
⟨(.ld 53 (.tmp (pth 48))), opAt P 93 7 4, (some (pth 49)), none⟩,
⟨(.mv (.tmp (pth 1))), opAt P 93 7 5, (some (pth 50)), none⟩,
⟨(.ld 58 (.tmp (pth 5))), opAt P 93 7 6, (some (pth 51)), none⟩,
⟨(.fa (.tmp (pth 5)) 4), opAt P 93 7 7, (some (pth 52)), none⟩,
⟨(.ld 3 (.tmp (pth 52))), opAt P 93 7 8, (some (pth 53)), none⟩,
⟨(.bin .add (.tmp (pth 53)) (.val (.int .i64 (1)))), opAt P 93 7 9, (some (pth 54)), none⟩,
⟨(.call 95 [(.tmp (pth 51)), (.tmp (pth 54))]), opAt P 93 7 10, (some (pth 55)), none⟩,
⟨(.ia (.tmp (pth 49)) (.tmp (pth 50)) 9), opAt P 93 7 11, (some (pth 56)), none⟩,
⟨(.st 58 (.tmp (pth 56)) (.tmp (pth 55))), opAt P 93 7 12, none, none⟩] [(4, 6), (4, 8), (6, 8), (4, 9), (6, 9), (4, 10)])
(.seq (.reg [⟨(.mv (.tmp (pth 0))), opAt P 93 8 0, (some (pth 57)), none⟩,
⟨(.mv (.tmp (pth 0))), opAt P 93 8 1, (some (pth 58)), none⟩,
⟨(.nc (.tmp (pth 58))), opAt P 93 8 2, (some (pth 59)), none⟩,
⟨(.fa (.tmp (pth 59)) 1), opAt P 93 8 3, (some (pth 60)), none⟩,
⟨(.fa (.tmp (pth 60)) 2), opAt P 93 8 4, (some (pth 61)), none⟩,
⟨(.ld 53 (.tmp (pth 61))), opAt P 93 8 5, (some (pth 62)), none⟩,
⟨(.mv (.tmp (pth 1))), opAt P 93 8 6, (some (pth 63)), none⟩,
⟨(.bin .add (.tmp (pth 63)) (.val (.int .i64 (1)))), opAt P 93 8 7, (some (pth 64)), none⟩,
⟨(.ld 58 (.tmp (pth 9))), opAt P 93 8 8, (some (pth 65)), none⟩,
⟨.slow, opAt P 93 8 9, (some (pth 66)), none⟩,
⟨(.call 117 [(.tmp (pth 62)), (.tmp (pth 64)), (.tmp (pth 66))]), opAt P 93 8 10, (some (pth 67)), none⟩,
⟨(.nc (.tmp (pth 57))), opAt P 93 8 11, (some (pth 68)), none⟩,
⟨(.fa (.tmp (pth 68)) 1), opAt P 93 8 12, (some (pth 69)), none⟩,
⟨(.fa (.tmp (pth 69)) 2), opAt P 93 8 13, (some (pth 70)), none⟩,
⟨(.st 53 (.tmp (pth 70)) (.tmp (pth 67))), opAt P 93 8 14, none, none⟩] [(5, 7), (5, 8), (7, 8), (5, 9), (7, 9)])
(.seq (.seqr [⟨(.mv (.val (.bool true))), opAt P 93 9 0, (some (pth 4)), none⟩])
.ret))))))))), [.tmp (pth 4)]⟩
theorem cf93_ok : cFn Try.prog 93 = some (cf93 Try.prog) := by kernel_rfl
def cf94 (P : Program) : FF := ⟨104, (.seq (.seqr [⟨(.mv (.val (.bool false))), opAt P 94 0 0, (some (pth 4)), none⟩])
(.seq (.seq (.reg [⟨(.mv (.tmp (pth 1))), opAt P 94 1 0, (some (pth 10)), none⟩,
⟨(.bin .add (.tmp (pth 10)) (.val (.int .i64 (1)))), opAt P 94 1 1, (some (pth 11)), none⟩,
⟨(.mv (.tmp (pth 0))), opAt P 94 1 2, (some (pth 12)), none⟩,
⟨(.nc (.tmp (pth 12))), opAt P 94 1 3, (some (pth 13)), none⟩,
⟨(.fa (.tmp (pth 13)) 1), opAt P 94 1 4, (some (pth 14)), none⟩,
⟨(.fa (.tmp (pth 14)) 2), opAt P 94 1 5, (some (pth 15)), none⟩,
⟨(.ld 53 (.tmp (pth 15))), opAt P 94 1 6, (some (pth 16)), none⟩,
⟨.slow, opAt P 94 1 7, (some (pth 17)), none⟩,
⟨(.bin .geq (.tmp (pth 11)) (.tmp (pth 17))), opAt P 94 1 8, (some (pth 18)), none⟩,
⟨(.mv (.tmp (pth 18))), opAt P 94 1 9, (some (pth 19)), none⟩,
⟨(.mv (.tmp (pth 0))), opAt P 94 1 10, (some (pth 20)), (some ((pth 19), false))⟩,
⟨(.nc (.tmp (pth 20))), opAt P 94 1 11, (some (pth 21)), (some ((pth 19), false))⟩,
⟨(.fa (.tmp (pth 21)) 1), opAt P 94 1 12, (some (pth 22)), (some ((pth 19), false))⟩,
⟨(.fa (.tmp (pth 22)) 2), opAt P 94 1 13, (some (pth 23)), (some ((pth 19), false))⟩,
⟨(.ld 53 (.tmp (pth 23))), opAt P 94 1 14, (some (pth 24)), (some ((pth 19), false))⟩,
⟨(.mv (.tmp (pth 1))), opAt P 94 1 15, (some (pth 25)), (some ((pth 19), false))⟩,
⟨(.bin .add (.tmp (pth 25)) (.val (.int .i64 (1)))), opAt P 94 1 16, (some (pth 26)), (some ((pth 19), false))⟩,
⟨(.ia (.tmp (pth 24)) (.tmp (pth 26)) 9), opAt P 94 1 17, (some (pth 27)), (some ((pth 19), false))⟩,
⟨(.fa (.tmp (pth 27)) 0), opAt P 94 1 18, (some (pth 28)), (some ((pth 19), false))⟩,
⟨(.ld 3 (.tmp (pth 28))), opAt P 94 1 19, (some (pth 29)), (some ((pth 19), false))⟩,
⟨(.mv (.tmp (pth 0))), opAt P 94 1 20, (some (pth 30)), (some ((pth 19), false))⟩,
⟨(.nc (.tmp (pth 30))), opAt P 94 1 21, (some (pth 31)), (some ((pth 19), false))⟩,
⟨(.fa (.tmp (pth 31)) 1), opAt P 94 1 22, (some (pth 32)), (some ((pth 19), false))⟩,
⟨(.fa (.tmp (pth 32)) 2), opAt P 94 1 23, (some (pth 33)), (some ((pth 19), false))⟩,
⟨(.ld 53 (.tmp (pth 33))), opAt P 94 1 24, (some (pth 34)), (some ((pth 19), false))⟩,
⟨(.mv (.tmp (pth 1))), opAt P 94 1 25, (some (pth 35)), (some ((pth 19), false))⟩,
⟨(.ia (.tmp (pth 34)) (.tmp (pth 35)) 9), opAt P 94 1 26, (some (pth 36)), (some ((pth 19), false))⟩,
⟨(.fa (.tmp (pth 36)) 8), opAt P 94 1 27, (some (pth 37)), (some ((pth 19), false))⟩,
⟨(.ld 3 (.tmp (pth 37))), opAt P 94 1 28, (some (pth 38)), (some ((pth 19), false))⟩,
⟨(.bin .neq (.tmp (pth 29)) (.tmp (pth 38))), opAt P 94 1 29, (some (pth 39)), (some ((pth 19), false))⟩,
⟨(.pick (.tmp (pth 19)) (.val (.bool true)) (.tmp (pth 39))), opAt P 94 1 30, (some (pth 40)), none⟩] [(1, 6), (1, 7), (14, 16), (14, 24), (16, 24), (19, 24), (14, 28), (16, 28), (19, 28)])
(.cond (.tmp (pth 40)) (.seq (.seqr [⟨(.mv (.val (.bool false))), opAt P 94 2 0, (some (pth 4)), none⟩])
.ret)
.skip))
(.seq (.reg [⟨(.mv (.tmp (pth 0))), opAt P 94 3 0, (some (pth 41)), none⟩,
⟨(.nc (.tmp (pth 41))), opAt P 94 3 1, (some (pth 42)), none⟩,
⟨(.fa (.tmp (pth 42)) 1), opAt P 94 3 2, (some (pth 43)), none⟩,
⟨(.fa (.tmp (pth 43)) 2), opAt P 94 3 3, (some (pth 44)), none⟩,
⟨(.ld 53 (.tmp (pth 44))), opAt P 94 3 4, (some (pth 45)), none⟩,
⟨(.mv (.tmp (pth 1))), opAt P 94 3 5, (some (pth 46)), none⟩,
⟨(.ia (.tmp (pth 45)) (.tmp (pth 46)) 9), opAt P 94 3 6, (some (pth 47)), none⟩,
⟨(.ld 58 (.tmp (pth 47))), opAt P 94 3 7, (some (pth 48)), none⟩,
⟨(.mv (.tmp (pth 0))), opAt P 94 3 8, (some (pth 49)), none⟩,
⟨(.nc (.tmp (pth 49))), opAt P 94 3 9, (some (pth 50)), none⟩,
⟨(.fa (.tmp (pth 50)) 1), opAt P 94 3 10, (some (pth 51)), none⟩,
⟨(.fa (.tmp (pth 51)) 2), opAt P 94 3 11, (some (pth 52)), none⟩,
⟨(.ld 53 (.tmp (pth 52))), opAt P 94 3 12, (some (pth 53)), none⟩,
⟨(.mv (.tmp (pth 1))), opAt P 94 3 13, (some (pth 54)), none⟩,
⟨(.bin .add (.tmp (pth 54)) (.val (.int .i64 (1)))), opAt P 94 3 14, (some (pth 55)), none⟩,
⟨(.ia (.tmp (pth 53)) (.tmp (pth 55)) 9), opAt P 94 3 15, (some (pth 56)), none⟩,
⟨(.ld 58 (.tmp (pth 56))), opAt P 94 3 16, (some (pth 57)), none⟩,
⟨.slow, opAt P 94 3 17, (some (pth 5)), none⟩,
⟨.slow, opAt P 94 3 18, (some (pth 6)), none⟩,
⟨(.st 58 (.tmp (pth 5)) (.tmp (pth 48))), opAt P 94 3 19, none, none⟩,
⟨(.st 58 (.tmp (pth 6)) (.tmp (pth 57))), opAt P 94 3 20, none, none⟩] [(4, 12), (7, 12), (4, 14), (7, 14), (12, 14), (4, 16), (7, 16), (4, 17), (7, 17), (12, 17), (14, 17), (16, 17), (4, 18), (7, 18), (12, 18), (14, 18), (16, 18), (17, 18), (12, 19), (14, 19), (16, 19)])
(.seq (.seqr [⟨(.fa (.tmp (pth 5)) 1), opAt P 94 4 0, (some (pth 59)), none⟩,
⟨(.ld 46 (.tmp (pth 59))), opAt P 94 4 1, (some (pth 60)), none⟩,
⟨(.fa (.tmp (pth 6)) 1), opAt P 94 4 2, (some (pth 61)), none⟩,
⟨(.ld 46 (.tmp (pth 61))), opAt P 94 4 3, (some (pth 62)), none⟩,
⟨(.call 118 [(.tmp (pth 60)), (.tmp (pth 62))]), opAt P 94 4 4, (some (pth 63)), none⟩,
⟨(.mv (.tmp (pth 63))), opAt P 94 4 5, (some (pth 58)), none⟩,
⟨(.ext (.tmp (pth 58)) 0), opAt P 94 4 6, (some (pth 64)), none⟩,
⟨(.ext (.tmp (pth 58)) 1), opAt P 94 4 7, (some (pth 65)), none⟩,
⟨.slow, opAt P 94 4 8, (some (pth 7)), none⟩,
⟨(.st 46 (.tmp (pth 7)) (.tmp (pth 64))), opAt P 94 4 9, none, none⟩,
⟨(.mv (.tmp (pth 65))), opAt P 94 4 10, (some (pth 8)), none⟩])
(.seq (.seqr [⟨(.fa (.tmp (pth 5)) 4), opAt P 94 5 0, (some (pth 66)), none⟩,
⟨(.ld 3 (.tmp (pth 66))), opAt P 94 5 1, (some (pth 67)), none⟩,
⟨(.fa (.tmp (pth 6)) 4), opAt P 94 5 2, (some (pth 68)), none⟩,
⟨(.ld 3 (.tmp (pth 68))), opAt P 94 5 3, (some (pth 69)), none⟩,
⟨.slow, opAt P 94 5 4, (some (pth 70)), none⟩,
⟨(.mv (.tmp (pth 70))), opAt P 94 5 5, (some (pth 9)), none⟩])
(.seq (.seq (.seqr [⟨(.mv (.tmp (pth 8))), opAt P 94 6 0, (some (pth 71)), none⟩,
⟨(.un .not (.tmp (pth 71))), opAt P 94 6 1, (some (pth 72)), none⟩,
⟨(.mv (.tmp (pth 72))), opAt P 94 6 2, (some (pth 73)), none⟩,
⟨(.mv (.tmp (pth 9))), opAt P 94 6 3, (some (pth 74)), (some ((pth 73), false))⟩,
⟨(.bin .geq (.tmp (pth 74)) (.val (.int .i64 (1099511627776)))), opAt P 94 6 4, (some (pth 75)), (some ((pth 73), false))⟩,
⟨(.pick (.tmp (pth 73)) (.val (.bool true)) (.tmp (pth 75))), opAt P 94 6 5, (some (pth 76)), none⟩])
(.cond (.tmp (pth 76)) (.seq (.seqr [⟨(.mv (.val (.bool false))), opAt P 94 7 0, (some (pth 4)), none⟩])
.ret)
.skip))
(.seq (.seqr [⟨(.ld 46 (.tmp (pth 7))), opAt P 94 8 0, (some (pth 77)), none⟩,
⟨(.fa (.tmp (pth 5)) 1), opAt P 94 8 1, (some (pth 78)), none⟩,
⟨(.st 46 (.tmp (pth 78)) (.tmp (pth 77))), opAt P 94 8 2, none, none⟩])
(.seq (.reg [⟨(.mv (.tmp (pth 0))), opAt P 94 9 0, (some (pth 79)), none⟩,
⟨(.nc (.tmp (pth 79))), opAt P 94 9 1, (some (pth 80)), none⟩,
⟨(.fa (.tmp (pth 80)) 1), opAt P 94 9 2, (some (pth 81)), none⟩,
⟨(.fa (.tmp (pth 81)) 2), opAt P 94 9 3, (some (pth 82)), none⟩,
⟨(.ld 53 (.tmp (pth 82))), opAt P 94 9 4, (some (pth 83)), none⟩,
⟨(.mv (.tmp (pth 1))), opAt P 94 9 5, (some (pth 84)), none⟩,
⟨(.ld 58 (.tmp (pth 5))), opAt P 94 9 6, (some (pth 85)), none⟩,
⟨(.mv (.tmp (pth 9))), opAt P 94 9 7, (some (pth 86)), none⟩,
⟨(.bin .add (.tmp (pth 86)) (.val (.int .i64 (1)))), opAt P 94 9 8, (some (pth 87)), none⟩,
⟨(.call 95 [(.tmp (pth 85)), (.tmp (pth 87))]), opAt P 94 9 9, (some (pth 88)), none⟩,
⟨(.ia (.tmp (pth 83)) (.tmp (pth 84)) 9), opAt P 94 9 10, (some (pth 89)), none⟩,
⟨(.st 58 (.tmp (pth 89)) (.tmp (pth 88))), opAt P 94 9 11, none, none⟩] [(4, 6), (4, 8), (6, 8), (4, 9)])
(.seq (.seqr [⟨(.mv (.tmp (pth 0))), opAt P 94 10 0, (some (pth 90)), none⟩,
⟨(.mv (.tmp (pth 0))), opAt P 94 10 1, (some (pth 91)), none⟩,
⟨(.nc (.tmp (pth 91))), opAt P 94 10 2, (some (pth 92)), none⟩,
⟨(.fa (.tmp (pth 92)) 1), opAt P 94 10 3, (some (pth 93)), none⟩,
⟨(.fa (.tmp (pth 93)) 2), opAt P 94 10 4, (some (pth 94)), none⟩,
⟨(.ld 53 (.tmp (pth 94))), opAt P 94 10 5, (some (pth 95)), none⟩,
⟨(.mv (.tmp (pth 1))), opAt P 94 10 6, (some (pth 96)), none⟩,
⟨(.bin .add (.tmp (pth 96)) (.val (.int .i64 (1)))), opAt P 94 10 7, (some (pth 97)), none⟩,
⟨(.mv (.tmp (pth 1))), opAt P 94 10 8, (some (pth 98)), none⟩,
⟨(.bin .add (.tmp (pth 98)) (.val (.int .i64 (2)))), opAt P 94 10 9, (some (pth 99)), none⟩,
⟨(.call 119 [(.tmp (pth 95)), (.tmp (pth 97)), (.tmp (pth 99))]), opAt P 94 10 10, (some (pth 100)), none⟩,
⟨(.nc (.tmp (pth 90))), opAt P 94 10 11, (some (pth 101)), none⟩,
⟨(.fa (.tmp (pth 101)) 1), opAt P 94 10 12, (some (pth 102)), none⟩,
⟨(.fa (.tmp (pth 102)) 2), opAt P 94 10 13, (some (pth 103)), none⟩,
⟨(.st 53 (.tmp (pth 103)) (.tmp (pth 100))), opAt P 94 10 14, none, none⟩])
(.seq (.seqr [⟨(.mv (.val (.bool true))), opAt P 94 11 0, (some (pth 4)), none⟩])
.ret)))))))))), [.tmp (pth 4)]⟩
theorem cf94_ok : cFn Try.prog 94 = some (cf94 Try.prog) := by kernel_rfl
def cf95 (P : Program) : FF := ⟨13, (.seq (.seqr [⟨.slow, opAt P 95 0 0, (some (pth 2)), none⟩,
⟨.slow, opAt P 95 0 1, (some (pth 4)), none⟩])
(.seq (.seqr [⟨(.fa (.tmp (pth 2)) 0), opAt P 95 1 0, (some (pth 5)), none⟩,
⟨(.ld 3 (.tmp (pth 5))), opAt P 95 1 1, (some (pth 6)), none⟩,
⟨(.fa (.tmp (pth 2)) 1), opAt P 95 1 2, (some (pth 7)), none⟩,
⟨(.ld 46 (.tmp (pth 7))), opAt P 95 1 3, (some (pth 8)), none⟩,
⟨(.fa (.tmp (pth 2)) 3), opAt P 95 1 4, (some (pth 9)), none⟩,
⟨(.ld 3 (.tmp (pth 9))), opAt P 95 1 5, (some (pth 10)), none⟩,
⟨(.mv (.tmp (pth 1))), opAt P 95 1 6, (some (pth 11)), none⟩,
⟨.slow, opAt P 95 1 7, (some (pth 12)), none⟩,
⟨(.st 58 (.tmp (pth 4)) (.tmp (pth 12))), opAt P 95 1 8, none, none⟩])
.ret)), [.cell (pth 4) 58]⟩
theorem cf95_ok : cFn Try.prog 95 = some (cf95 Try.prog) := by kernel_rfl
def cf116 (P : Program) : FF := ⟨19, (.seq (.seqr [⟨(.mv (.val (.int .i64 (0)))), opAt P 116 0 0, (some (pth 4)), none⟩])
(.seq (.seq (.seqr [⟨(.mv (.tmp (pth 0))), opAt P 116 1 0, (some (pth 6)), none⟩,
⟨.slow, opAt P 116 1 1, (some (pth 7)), none⟩,
⟨(.mv (.val (.int .i64 (0)))), opAt P 116 1 2, (some (pth 8)), none⟩])
(.block 0 (.loop (.seq (.seqr [⟨(.bin .lss (.tmp (pth 8)) (.tmp (pth 7))), opAt P 116 2 0, (some (pth 9)), none⟩])
(.seq (.cond (.tmp (pth 9)) .skip
(.exit 0))
(.seq (.block 1 (.seq (.seqr [⟨(.mv (.tmp (pth 8))), opAt P 116 3 0, (some (pth 10)), none⟩,
⟨(.mv (.tmp (pth 10))), opAt P 116 3 1, (some (pth 5)), none⟩])
(.seq (.seqr [⟨(.mv (.tmp (pth 1))), opAt P 116 4 0, (some (pth 11)), none⟩,
⟨(.mv (.tmp (pth 0))), opAt P 116 4 1, (some (pth 12)), none⟩,
⟨(.mv (.tmp (pth 5))), opAt P 116 4 2, (some (pth 13)), none⟩,
⟨(.ia (.tmp (pth 12)) (.tmp (pth 13)) 1), opAt P 116 4 3, (some (pth 14)), none⟩,
⟨(.ld 3 (.tmp (pth 14))), opAt P 116 4 4, (some (pth 15)), none⟩,
⟨(.bin .eql (.tmp (pth 11)) (.tmp (pth 15))), opAt P 116 4 5, (some (pth 16)), none⟩])
(.cond (.tmp (pth 16)) (.seq (.seqr [⟨(.mv (.tmp (pth 5))), opAt P 116 5 0, (some (pth 17)), none⟩,
⟨(.mv (.tmp (pth 17))), opAt P 116 5 1, (some (pth 4)), none⟩])
.ret)
.skip))))
(.seqr [⟨(.bin .add (.tmp (pth 8)) (.val (.int .i64 (1)))), opAt P 116 6 0, (some (pth 18)), none⟩,
⟨(.mv (.tmp (pth 18))), opAt P 116 6 1, (some (pth 8)), none⟩])))))))
(.seq (.seqr [⟨(.mv (.val (.int .i64 (-1)))), opAt P 116 7 0, (some (pth 4)), none⟩])
.ret))), [.tmp (pth 4)]⟩
theorem cf116_ok : cFn Try.prog 116 = some (cf116 Try.prog) := by kernel_rfl
def cf117 (P : Program) : FF := ⟨95, (.seq (.seqr [⟨(.mv (.val (.slice none 0 0))), opAt P 117 0 0, (some (pth 6)), none⟩])
(.seq (.seqr [⟨(.mv (.tmp (pth 0))), opAt P 117 1 0, (some (pth 10)), none⟩,
⟨(.mv (.tmp (pth 1))), opAt P 117 1 1, (some (pth 11)), none⟩,
⟨.slow, opAt P 117 1 2, (some (pth 12)), none⟩])
(.seq (.seqr [⟨(.mv (.tmp (pth 2))), opAt P 117 2 0, (some (pth 13)), none⟩,
⟨.slow, opAt P 117 2 1, (some (pth 14)), none⟩,
⟨(.mv (.tmp (pth 14))), opAt P 117 2 2, (some (pth 7)), none⟩])
(.seq (.seq (.seqr [⟨(.mv (.tmp (pth 7))), opAt P 117 3 0, (some (pth 15)), none⟩,
⟨(.bin .eql (.tmp (pth 15)) (.val (.int .i64 (0)))), opAt P 117 3 1, (some (pth 16)), none⟩])
(.cond (.tmp (pth 16)) (.seq (.seqr [⟨(.mv (.tmp (pth 0))), opAt P 117 4 0, (some (pth 17)), none⟩,
⟨(.mv (.tmp (pth 17))), opAt P 117 4 1, (some (pth 6)), none⟩])
.ret)
.skip))
(.seq (.seqr [⟨(.mv (.tmp (pth 0))), opAt P 117 5 0, (some (pth 18)), none⟩,
⟨.slow, opAt P 117 5 1, (some (pth 19)), none⟩,
⟨(.mv (.tmp (pth 19))), opAt P 117 5 2, (some (pth 8)), none⟩])
(.seq (.seq (.seqr [⟨(.mv (.tmp (pth 1))), opAt P 117 6 0, (some (pth 20)), none⟩,
⟨(.mv (.tmp (pth 8))), opAt P 117 6 1, (some (pth 21)), none⟩,
⟨(.bin .eql (.tmp (pth 20)) (.tmp (pth 21))), opAt P 117 6 2, (some (pth 22)), none⟩])
(.cond (.tmp (pth 22)) (.seq (.seqr [⟨(.mv (.tmp (pth 0))), opAt P 117 7 0, (some (pth 23)), none⟩,
⟨(.mv (.tmp (pth 2))), opAt P 117 7 1, (some (pth 24)), none⟩,
⟨.slow, opAt P 117 7 2, (some (pth 25)), none⟩,
⟨(.mv (.tmp (pth 25))), opAt P 117 7 3, (some (pth 6)), none⟩])
.ret)
.skip))
(.seq (.seq (.seqr [⟨(.mv (.tmp (pth 8))), opAt P 117 8 0, (some (pth 26)), none⟩,
⟨(.mv (.tmp (pth 7))), opAt P 117 8 1, (some (pth 27)), none⟩,
⟨(.bin .add (.tmp (pth 26)) (.tmp (pth 27))), opAt P 117 8 2, (some (pth 28)), none⟩,
⟨(.mv (.tmp (pth 0))), opAt P 117 8 3, (some (pth 29)), none⟩,
⟨.slow, opAt P 117 8 4, (some (pth 30)), none⟩,
⟨(.bin .gtr (.tmp (pth 28)) (.tmp (pth 30))), opAt P 117 8 5, (some (pth 31)), none⟩])
(.cond (.tmp (pth 31)) (.seq (.seqr [⟨(.mv (.tmp (pth 0))), opAt P 117 9 0, (some (pth 32)), none⟩,
⟨(.mv (.tmp (pth 1))), opAt P 117 9 1, (some (pth 33)), none⟩,
⟨.slow, opAt P 117 9 2, (some (pth 34)), none⟩,
⟨(.mv (.tmp (pth 8))), opAt P 117 9 3, (some (pth 35)), none⟩,
⟨(.mv (.tmp (pth 7))), opAt P 117 9 4, (some (pth 36)), none⟩,
⟨(.bin .add (.tmp (pth 35)) (.tmp (pth 36))), opAt P 117 9 5, (some (pth 37)), none⟩,
⟨(.mv (.tmp (pth 1))), opAt P 117 9 6, (some (pth 38)), none⟩,
⟨(.bin .sub (.tmp (pth 37)) (.tmp (pth 38))), opAt P 117 9 7, (some (pth 39)), none⟩,
⟨.slow, opAt P 117 9 8, (some (pth 40)), none⟩,
⟨(.mv (.tmp (pth 40))), opAt P 117 9 9, (some (pth 9)), none⟩])
(.seq (.seqr [⟨(.mv (.tmp (pth 9))), opAt P 117 10 0, (some (pth 41)), none⟩,
⟨(.mv (.tmp (pth 1))), opAt P 117 10 1, (some (pth 42)), none⟩,
⟨.slow, opAt P 117 10 2, (some (pth 43)), none⟩,
⟨(.mv (.tmp (pth 2))), opAt P 117 10 3, (some (pth 44)), none⟩,
⟨.slow, opAt P 117 10 4, (some (pth 45)), none⟩])
(.seq (.reg [⟨(.mv (.tmp (pth 9))), opAt P 117 11 0, (some (pth 46)), none⟩,
⟨(.mv (.tmp (pth 1))), opAt P 117 11 1, (some (pth 47)), none⟩,
⟨(.mv (.tmp (pth 7))), opAt P 117 11 2, (some (pth 48)), none⟩,
⟨(.bin .add (.tmp (pth 47)) (.tmp (pth 48))), opAt P 117 11 3, (some (pth 49)), none⟩,
⟨.slow, opAt P 117 11 4, (some (pth 50)), none⟩,
⟨(.mv (.tmp (pth 0))), opAt P 117 11 5, (some (pth 51)), none⟩,
⟨(.mv (.tmp (pth 1))), opAt P 117 11 6, (some (pth 52)), none⟩,
⟨.slow, opAt P 117 11 7, (some (pth 53)), none⟩,
⟨.slow, opAt P 117 11 8, (some (pth 54)), none⟩] [(3, 7), (4, 7)])
(.seq (.seqr [⟨(.mv (.tmp (pth 9))), opAt P 117 12 0, (some (pth 55)), none⟩,
⟨(.mv (.tmp (pth 55))), opAt P 117 12 1, (some (pth 6)), none⟩])
.ret))))
.skip))
(.seq (.seqr [⟨(.mv (.tmp (pth 0))), opAt P 117 13 0, (some (pth 56)), none⟩,
⟨(.mv (.tmp (pth 8))), opAt P 117 13 1, (some (pth 57)), none⟩,
⟨(.mv (.tmp (pth 7))), opAt P 117 13 2, (some (pth 58)), none⟩,
⟨(.bin .add (.tmp (pth 57)) (.tmp (pth 58))), opAt P 117 13 3, (some (pth 59)), none⟩,
⟨.slow, opAt P 117 13 4, (some (pth 60)), none⟩,
⟨(.mv (.tmp (pth 60))), opAt P 117 13 5, (some (pth 0)), none⟩])
(.seq (.seq (.seqr [⟨(.mv (.tmp (pth 2))), opAt P 117 14 0, (some (pth 61)), none⟩,
⟨(.mv (.tmp (pth 0))), opAt P 117 14 1, (some (pth 62)), none⟩,
⟨(.mv (.tmp (pth 1))), opAt P 117 14 2, (some (pth 63)), none⟩,
⟨(.mv (.tmp (pth 7))), opAt P 117 14 3, (some (pth 64)), none⟩,
⟨(.bin .add (.tmp (pth 63)) (.tmp (pth 64))), opAt P 117 14 4, (some (pth 65)), none⟩,
⟨.slow, opAt P 117 14 5, (some (pth 66)), none⟩,
⟨.slow, opAt P 117 14 6, (some (pth 67)), none⟩,
⟨(.un .not (.tmp (pth 67))), opAt P 117 14 7, (some (pth 68)), none⟩])
(.cond (.tmp (pth 68)) (.seq (.reg [⟨(.mv (.tmp (pth 0))), opAt P 117 15 0, (some (pth 69)), none⟩,
⟨(.mv (.tmp (pth 1))), opAt P 117 15 1, (some (pth 70)), none⟩,
⟨(.mv (.tmp (pth 7))), opAt P 117 15 2, (some (pth 71)), none⟩,
⟨(.bin .add (.tmp (pth 70)) (.tmp (pth 71))), opAt P 117 15 3, (some (pth 72)), none⟩,
⟨.slow, opAt P 117 15 4, (some (pth 73)), none⟩,
⟨(.mv (.tmp (pth 0))), opAt P 117 15 5, (some (pth 74)), none⟩,
⟨(.mv (.tmp (pth 1))), opAt P 117 15 6, (some (pth 75)), none⟩,
⟨.slow, opAt P 117 15 7, (some (pth 76)), none⟩,
⟨.slow, opAt P 117 15 8, (some (pth 77)), none⟩] [(3, 7), (4, 7)])
(.seq (.seqr [⟨(.mv (.tmp (pth 0))), opAt P 117 16 0, (some (pth 78)), none⟩,
⟨(.mv (.tmp (pth 1))), opAt P 117 16 1, (some (pth 79)), none⟩,
⟨.slow, opAt P 117 16 2, (some (pth 80)), none⟩,
⟨(.mv (.tmp (pth 2))), opAt P 117 16 3, (some (pth 81)), none⟩,
⟨.slow, opAt P 117 16 4, (some (pth 82)), none⟩])
(.seq (.seqr [⟨(.mv (.tmp (pth 0))), opAt P 117 17 0, (some (pth 83)), none⟩,
⟨(.mv (.tmp (pth 83))), opAt P 117 17 1, (some (pth 6)), none⟩])
.ret)))
.skip))
(.seq (.seqr [⟨(.mv (.tmp (pth 0))), opAt P 117 18 0, (some (pth 84)), none⟩,
⟨(.mv (.tmp (pth 8))), opAt P 117 18 1, (some (pth 85)), none⟩,
⟨.slow, opAt P 117 18 2, (some (pth 86)), none⟩,
⟨(.mv (.tmp (pth 2))), opAt P 117 18 3, (some (pth 87)), none⟩,
⟨.slow, opAt P 117 18 4, (some (pth 88)), none⟩])
(.seq (.seqr [⟨(.mv (.tmp (pth 0))), opAt P 117 19 0, (some (pth 89)), none⟩,
⟨(.mv (.tmp (pth 1))), opAt P 117 19 1, (some (pth 90)), none⟩,
⟨.slow, opAt P 117 19 2, (some (pth 91)), none⟩,
⟨(.mv (.tmp (pth 7))), opAt P 117 19 3, (some (pth 92)), none⟩,
⟨(.call 134 [(.tmp (pth 91)), (.tmp (pth 92))]), opAt P 117 19 4, (some (pth 93)), none⟩])
(.seq (.seqr [⟨(.mv (.tmp (pth 0))), opAt P 117 20 0, (some (pth 94)), none⟩,
⟨(.mv (.tmp (pth 94))), opAt P 117 20 1, (some (pth 6)), none⟩])
.ret)))))))))))), [.tmp (pth 6)]⟩
theorem cf117_ok : cFn Try.prog 117 = some (cf117 Try.prog) := by kernel_rfl
def cf118 (P : Program) : FF := ⟨32, (.seq (.seqr [⟨.slow, opAt P 118 0 0, (some (pth 2)), none⟩,
⟨.slow, opAt P 118 0 1, (some (pth 3)), none⟩,
⟨.slow, opAt P 118 0 2, (some (pth 4)), none⟩,
⟨(.mv (.val (.bool false))), opAt P 118 0 3, (some (pth 5)), none⟩])
(.seq (.seq (.seqr [⟨(.ld 46 (.tmp (pth 2))), opAt P 118 1 0, (some (pth 6)), none⟩,
⟨(.call 76 [(.tmp (pth 6))]), opAt P 118 1 1, (some (pth 7)), none⟩,
⟨(.un .not (.tmp (pth 7))), opAt P 118 1 2, (some (pth 8)), none⟩,
⟨(.mv (.tmp (pth 8))), opAt P 118 1 3, (some (pth 9)), none⟩,
⟨(.ld 46 (.tmp (pth 3))), opAt P 118 1 4, (some (pth 10)), (some ((pth 9), false))⟩,
⟨(.call 76 [(.tmp (pth 10))]), opAt P 118 1 5, (some (pth 11)), (some ((pth 9), false))⟩,
⟨(.un .not (.tmp (pth 11))), opAt P 118 1 6, (some (pth 12)), (some ((pth 9), false))⟩,
⟨(.pick (.tmp (pth 9)) (.val (.bool true)) (.tmp (pth 12))), opAt P 118 1 7, (some (pth 13)), none⟩,
⟨(.mv (.tmp (pth 13))), opAt P 118 1 8, (some (pth 14)), none⟩,
⟨(.fa (.tmp (pth 2)) 1), opAt P 118 1 9, (some (pth 15)), (some ((pth 14), false))⟩,
⟨(.ld 9 (.tmp (pth 15))), opAt P 118 1 10, (some (pth 16)), (some ((pth 14), false))⟩,
⟨(.bin .eql (.tmp (pth 16)) (.val (.string ⟨#[]⟩))), opAt P 118 1 11, (some (pth 17)), (some ((pth 14), false))⟩,
⟨(.pick (.tmp (pth 14)) (.val (.bool true)) (.tmp (pth 17))), opAt P 118 1 12, (some (pth 18)), none⟩,
⟨(.mv (.tmp (pth 18))), opAt P 118 1 13, (some (pth 19)), none⟩,
⟨(.fa (.tmp (pth 2)) 1), opAt P 118 1 14, (some (pth 20)), (some ((pth 19), false))⟩,
⟨(.ld 9 (.tmp (pth 20))), opAt P 118 1 15, (some (pth 21)), (some ((pth 19), false))⟩,
⟨(.fa (.tmp (pth 3)) 0), opAt P 118 1 16, (some (pth 22)), (some ((pth 19), false))⟩,
⟨(.ld 9 (.tmp (pth 22))), opAt P 118 1 17, (some (pth 23)), (some ((pth 19), false))⟩,
⟨(.bin .neq (.tmp (pth 21)) (.tmp (pth 23))), opAt P 118 1 18, (some (pth 24)), (some ((pth 19), false))⟩,
⟨(.pick (.tmp (pth 19)) (.val (.bool true)) (.tmp (pth 24))), opAt P 118 1 19, (some (pth 25)), none⟩])
(.cond (.tmp (pth 25)) (.seq (.seqr [⟨.slow, opAt P 118 2 0, (some (pth 26)), none⟩,
⟨(.st 46 (.tmp (pth 4)) (.tmp (pth 26))), opAt P 118 2 1, none, none⟩,
⟨(.mv (.val (.bool false))), opAt P 118 2 2, (some (pth 5)), none⟩])
.ret)
.skip))
(.seq (.seqr [⟨(.fa (.tmp (pth 2)) 0), opAt P 118 3 0, (some (pth 27)), none⟩,
⟨(.ld 9 (.tmp (pth 27))), opAt P 118 3 1, (some (pth 28)), none⟩,
⟨(.fa (.tmp (pth 3)) 1), opAt P 118 3 2, (some (pth 29)), none⟩,
⟨(.ld 9 (.tmp (pth 29))), opAt P 118 3 3, (some (pth 30)), none⟩,
⟨.slow, opAt P 118 3 4, (some (pth 31)), none⟩,
⟨(.st 46 (.tmp (pth 4)) (.tmp (pth 31))), opAt P 118 3 5, none, none⟩,
⟨(.mv (.val (.bool true))), opAt P 118 3 6, (some (pth 5)), none⟩])
.ret))), [.cell (pth 4) 46, .tmp (pth 5)]⟩
theorem cf118_ok : cFn Try.prog 118 = some (cf118 Try.prog) := by kernel_rfl
def cf119 (P : Program) : FF := ⟨33, (.seq (.seqr [⟨(.mv (.val (.slice none 0 0))), opAt P 119 0 0, (some (pth 6)), none⟩])
(.seq (.seqr [⟨(.mv (.tmp (pth 0))), opAt P 119 1 0, (some (pth 8)), none⟩,
⟨(.mv (.tmp (pth 1))), opAt P 119 1 1, (some (pth 9)), none⟩,
⟨(.mv (.tmp (pth 2))), opAt P 119 1 2, (some (pth 10)), none⟩,
⟨(.mv (.tmp (pth 0))), opAt P 119 1 3, (some (pth 11)), none⟩,
⟨.slow, opAt P 119 1 4, (some (pth 12)), none⟩,
⟨.slow, opAt P 119 1 5, (some (pth 13)), none⟩])
(.seq (.seq (.seqr [⟨(.mv (.tmp (pth 1))), opAt P 119 2 0, (some (pth 14)), none⟩,
⟨(.mv (.tmp (pth 2))), opAt P 119 2 1, (some (pth 15)), none⟩,
⟨(.bin .eql (.tmp (pth 14)) (.tmp (pth 15))), opAt P 119 2 2, (some (pth 16)), none⟩])
(.cond (.tmp (pth 16)) (.seq (.seqr [⟨(.mv (.tmp (pth 0))), opAt P 119 3 0, (some (pth 17)), none⟩,
⟨(.mv (.tmp (pth 17))), opAt P 119 3 1, (some (pth 6)), none⟩])
.ret)
.skip))
(.seq (.seqr [⟨(.mv (.tmp (pth 0))), opAt P 119 4 0, (some (pth 18)), none⟩,
⟨.slow, opAt P 119 4 1, (some (pth 19)), none⟩,
⟨(.mv (.tmp (pth 19))), opAt P 119 4 2, (some (pth 7)), none⟩])
(.seq (.reg [⟨(.mv (.tmp (pth 0))), opAt P 119 5 0, (some (pth 20)), none⟩,
⟨(.mv (.tmp (pth 1))), opAt P 119 5 1, (some (pth 21)), none⟩,
⟨.slow, opAt P 119 5 2, (some (pth 22)), none⟩,
⟨(.mv (.tmp (pth 0))), opAt P 119 5 3, (some (pth 23)), none⟩,
⟨(.mv (.tmp (pth 2))), opAt P 119 5 4, (some (pth 24)), none⟩,
⟨.slow, opAt P 119 5 5, (some (pth 25)), none⟩,
⟨.slow, opAt P 119 5 6, (some (pth 26)), none⟩,
⟨(.mv (.tmp (pth 26))), opAt P 119 5 7, (some (pth 0)), none⟩] [(2, 5)])
(.seq (.seqr [⟨(.mv (.tmp (pth 0))), opAt P 119 6 0, (some (pth 27)), none⟩,
⟨(.mv (.tmp (pth 0))), opAt P 119 6 1, (some (pth 28)), none⟩,
⟨.slow, opAt P 119 6 2, (some (pth 29)), none⟩,
⟨(.mv (.tmp (pth 7))), opAt P 119 6 3, (some (pth 30)), none⟩,
⟨.slow, opAt P 119 6 4, (some (pth 31)), none⟩,
⟨.slow, opAt P 119 6 5, none, none⟩])
(.seq (.seqr [⟨(.mv (.tmp (pth 0))), opAt P 119 7 0, (some (pth 32)), none⟩,
⟨(.mv (.tmp (pth 32))), opAt P 119 7 1, (some (pth 6)), none⟩])
.ret))))))), [.tmp (pth 6)]⟩
theorem cf119_ok : cFn Try.prog 119 = some (cf119 Try.prog) := by kernel_rfl
def cf134 (P : Program) : FF := ⟨10, (.seqr [⟨(.mv (.tmp (pth 0))), opAt P 134 0 0, (some (pth 4)), none⟩,
⟨(.mv (.tmp (pth 0))), opAt P 134 0 1, (some (pth 5)), none⟩,
⟨.slow, opAt P 134 0 2, (some (pth 6)), none⟩,
⟨(.mv (.tmp (pth 1))), opAt P 134 0 3, (some (pth 7)), none⟩,
⟨(.bin .sub (.tmp (pth 6)) (.tmp (pth 7))), opAt P 134 0 4, (some (pth 8)), none⟩,
⟨(.call 147 [(.tmp (pth 4)), (.tmp (pth 8))]), opAt P 134 0 5, (some (pth 9)), none⟩]), []⟩
theorem cf134_ok : cFn Try.prog 134 = some (cf134 Try.prog) := by kernel_rfl
def cf147 (P : Program) : FF := ⟨14, (.seq (.seqr [⟨(.mv (.tmp (pth 0))), opAt P 147 0 0, (some (pth 4)), none⟩,
⟨(.mv (.tmp (pth 1))), opAt P 147 0 1, (some (pth 5)), none⟩,
⟨.slow, opAt P 147 0 2, (some (pth 6)), none⟩,
⟨(.call 151 [(.tmp (pth 6))]), opAt P 147 0 3, (some (pth 7)), none⟩])
(.seq (.seqr [⟨(.mv (.tmp (pth 0))), opAt P 147 1 0, (some (pth 8)), none⟩,
⟨(.mv (.tmp (pth 1))), opAt P 147 1 1, (some (pth 9)), none⟩,
⟨.slow, opAt P 147 1 2, (some (pth 10)), none⟩,
⟨(.call 151 [(.tmp (pth 10))]), opAt P 147 1 3, (some (pth 11)), none⟩])
(.seqr [⟨(.mv (.tmp (pth 0))), opAt P 147 2 0, (some (pth 12)), none⟩,
⟨(.call 151 [(.tmp (pth 12))]), opAt P 147 2 1, (some (pth 13)), none⟩]))), []⟩
theorem cf147_ok : cFn Try.prog 147 = some (cf147 Try.prog) := by kernel_rfl
def cf151 (P : Program) : FF := ⟨28, (.seq (.seqr [⟨(.mv (.tmp (pth 0))), opAt P 151 0 0, (some (pth 4)), none⟩,
⟨.slow, opAt P 151 0 1, (some (pth 5)), none⟩,
⟨(.bin .sub (.tmp (pth 5)) (.val (.int .i64 (1)))), opAt P 151 0 2, (some (pth 6)), none⟩,
⟨(.mv (.val (.int .i64 (0)))), opAt P 151 0 3, (some (pth 2)), none⟩,
⟨(.mv (.tmp (pth 6))), opAt P 151 0 4, (some (pth 3)), none⟩])
(.block 0 (.loop (.seq (.seq (.seqr [⟨(.mv (.tmp (pth 2))), opAt P 151 1 0, (some (pth 7)), none⟩,
⟨(.mv (.tmp (pth 3))), opAt P 151 1 1, (some (pth 8)), none⟩,
⟨(.bin .lss (.tmp (pth 7)) (.tmp (pth 8))), opAt P 151 1 2, (some (pth 9)), none⟩])
(.cond (.tmp (pth 9)) .skip
(.exit 0)))
(.seq (.block 1 (.reg [⟨(.mv (.tmp (pth 0))), opAt P 151 2 0, (some (pth 14)), none⟩,
⟨(.mv (.tmp (pth 2))), opAt P 151 2 1, (some (pth 15)), none⟩,
⟨(.mv (.tmp (pth 0))), opAt P 151 2 2, (some (pth 16)), none⟩,
⟨(.mv (.tmp (pth 3))), opAt P 151 2 3, (some (pth 17)), none⟩,
⟨(.mv (.tmp (pth 0))), opAt P 151 2 4, (some (pth 18)), none⟩,
⟨(.mv (.tmp (pth 3))), opAt P 151 2 5, (some (pth 19)), none⟩,
⟨(.ia (.tmp (pth 18)) (.tmp (pth 19)) 9), opAt P 151 2 6, (some (pth 20)), none⟩,
⟨(.ld 58 (.tmp (pth 20))), opAt P 151 2 7, (some (pth 21)), none⟩,
⟨(.mv (.tmp (pth 0))), opAt P 151 2 8, (some (pth 22)), none⟩,
⟨(.mv (.tmp (pth 2))), opAt P 151 2 9, (some (pth 23)), none⟩,
⟨(.ia (.tmp (pth 22)) (.tmp (pth 23)) 9), opAt P 151 2 10, (some (pth 24)), none⟩,
⟨(.ld 58 (.tmp (pth 24))), opAt P 151 2 11, (some (pth 25)), none⟩,
⟨(.ia (.tmp (pth 14)) (.tmp (pth 15)) 9), opAt P 151 2 12, (some (pth 26)), none⟩,
⟨(.st 58 (.tmp (pth 26)) (.tmp (pth 21))), opAt P 151 2 13, none, none⟩,
⟨(.ia (.tmp (pth 16)) (.tmp (pth 17)) 9), opAt P 151 2 14, (some (pth 27)), none⟩,
⟨(.st 58 (.tmp (pth 27)) (.tmp (pth 25))), opAt P 151 2 15, none, none⟩] [(7, 11)]))
(.seqr [⟨(.mv (.tmp (pth 2))), opAt P 151 3 0, (some (pth 10)), none⟩,
⟨(.bin .add (.tmp (pth 10)) (.val (.int .i64 (1)))), opAt P 151 3 1, (some (pth 11)), none⟩,
⟨(.mv (.tmp (pth 3))), opAt P 151 3 2, (some (pth 12)), none⟩,
⟨(.bin .sub (.tmp (pth 12)) (.val (.int .i64 (1)))), opAt P 151 3 3, (some (pth 13)), none⟩,
⟨(.mv (.tmp (pth 11))), opAt P 151 3 4, (some (pth 2)), none⟩,
⟨(.mv (.tmp (pth 13))), opAt P 151 3 5, (some (pth 3)), none⟩])))))), []⟩
theorem cf151_ok : cFn Try.prog 151 = some (cf151 Try.prog) := by kernel_rfl
def ctL (P : Program) : List (Nat × FF) := [(7, cf7 P), (23, cf23 P), (24, cf24 P), (25, cf25 P), (26, cf26 P), (27, cf27 P), (48, cf48 P), (49, cf49 P), (50, cf50 P), (51, cf51 P), (52, cf52 P), (53, cf53 P), (54, cf54 P), (55, cf55 P), (69, cf69 P), (70, cf70 P), (71, cf71 P), (72, cf72 P), (73, cf73 P), (74, cf74 P), (75, cf75 P), (76, cf76 P), (84, cf84 P), (91, cf91 P), (92, cf92 P), (93, cf93 P), (94, cf94 P), (95, cf95 P), (116, cf116 P), (117, cf117 P), (118, cf118 P), (119, cf119 P), (134, cf134 P), (147, cf147 P), (151, cf151 P)]
theorem ctL_ok : AllOK Try.prog (ctL Try.prog) := ⟨cf7_ok, ⟨cf23_ok, ⟨cf24_ok, ⟨cf25_ok, ⟨cf26_ok, ⟨cf27_ok, ⟨cf48_ok, ⟨cf49_ok, ⟨cf50_ok, ⟨cf51_ok, ⟨cf52_ok, ⟨cf53_ok, ⟨cf54_ok, ⟨cf55_ok, ⟨cf69_ok, ⟨cf70_ok, ⟨cf71_ok, ⟨cf72_ok, ⟨cf73_ok, ⟨cf74_ok, ⟨cf75_ok, ⟨cf76_ok, ⟨cf84_ok, ⟨cf91_ok, ⟨cf92_ok, ⟨cf93_ok, ⟨cf94_ok, ⟨cf95_ok, ⟨cf116_ok, ⟨cf117_ok, ⟨cf118_ok, ⟨cf119_ok, ⟨cf134_ok, ⟨cf147_ok, ⟨cf151_ok, trivial⟩⟩⟩⟩⟩⟩⟩⟩⟩⟩⟩⟩⟩⟩⟩⟩⟩⟩⟩⟩⟩⟩⟩⟩⟩⟩⟩⟩⟩⟩⟩⟩⟩⟩⟩
end Go.Proofs.Ytleengigapmnpaa
