/- The program's functions, made ready. -/
import Derived.Test.YtpkfghaghodmpaaDoorEvS
import Derived.Test.YtpkfghaghodmpaaDoorEvZc
namespace Go.Proofs.YtpkfghaghodmpaaDoor
set_option linter.unusedVariables false
set_option maxRecDepth 100000
def cf3 (P : Program) : FF := ⟨85, (.seq (.seqr [⟨(.mv (.val (.bool false))), opAt P 3 0 0, (some (pth 4)), none⟩])
(.seq (.seq (.seqr [⟨(.mv (.tmp (pth 0))), opAt P 3 1 0, (some (pth 14)), none⟩,
⟨.slow, opAt P 3 1 1, (some (pth 15)), none⟩,
⟨(.bin .gtr (.tmp (pth 15)) (.val (.int .i64 (2000)))), opAt P 3 1 2, (some (pth 16)), none⟩])
(.cond (.tmp (pth 16)) (.seq (.seqr [⟨(.mv (.val (.bool true))), opAt P 3 2 0, (some (pth 4)), none⟩])
.ret)
.skip))
(.seq (.seqr [⟨(.mv (.val (.pointer none))), opAt P 3 3 0, (some (pth 5)), none⟩])
(.seq (.seqr [⟨(.mv (.tmp (pth 5))), opAt P 3 4 0, (some (pth 18)), none⟩,
⟨(.mv (.tmp (pth 0))), opAt P 3 4 1, (some (pth 19)), none⟩,
⟨(.call 4 [(.tmp (pth 18)), (.tmp (pth 19))]), opAt P 3 4 2, (some (pth 20)), none⟩,
⟨(.mv (.tmp (pth 20))), opAt P 3 4 3, (some (pth 17)), none⟩,
⟨(.ext (.tmp (pth 17)) 0), opAt P 3 4 4, (some (pth 21)), none⟩,
⟨(.ext (.tmp (pth 17)) 1), opAt P 3 4 5, (some (pth 22)), none⟩,
⟨(.mv (.tmp (pth 21))), opAt P 3 4 6, (some (pth 6)), none⟩,
⟨(.mv (.tmp (pth 22))), opAt P 3 4 7, (some (pth 7)), none⟩])
(.seq (.seqr [⟨(.mv (.tmp (pth 5))), opAt P 3 5 0, (some (pth 24)), none⟩,
⟨(.mv (.tmp (pth 1))), opAt P 3 5 1, (some (pth 25)), none⟩,
⟨(.call 5 [(.tmp (pth 24)), (.tmp (pth 25))]), opAt P 3 5 2, (some (pth 26)), none⟩,
⟨(.mv (.tmp (pth 26))), opAt P 3 5 3, (some (pth 23)), none⟩,
⟨(.ext (.tmp (pth 23)) 0), opAt P 3 5 4, (some (pth 27)), none⟩,
⟨(.ext (.tmp (pth 23)) 1), opAt P 3 5 5, (some (pth 28)), none⟩,
⟨(.mv (.tmp (pth 27))), opAt P 3 5 6, (some (pth 8)), none⟩,
⟨(.mv (.tmp (pth 28))), opAt P 3 5 7, (some (pth 9)), none⟩])
(.seq (.seqr [⟨(.mv (.tmp (pth 5))), opAt P 3 6 0, (some (pth 30)), none⟩,
⟨(.call 6 [(.tmp (pth 30))]), opAt P 3 6 1, (some (pth 31)), none⟩,
⟨(.mv (.tmp (pth 31))), opAt P 3 6 2, (some (pth 29)), none⟩,
⟨(.ext (.tmp (pth 29)) 0), opAt P 3 6 3, (some (pth 32)), none⟩,
⟨(.ext (.tmp (pth 29)) 1), opAt P 3 6 4, (some (pth 33)), none⟩,
⟨(.mv (.tmp (pth 32))), opAt P 3 6 5, (some (pth 10)), none⟩,
⟨(.mv (.tmp (pth 33))), opAt P 3 6 6, (some (pth 11)), none⟩])
(.seq (.seqr [⟨(.call 7 [(.val (.pointer none)), (.val (.string ⟨#[97]⟩))]), opAt P 3 7 0, (some (pth 35)), none⟩,
⟨(.mv (.tmp (pth 35))), opAt P 3 7 1, (some (pth 34)), none⟩,
⟨(.ext (.tmp (pth 34)) 0), opAt P 3 7 2, (some (pth 36)), none⟩,
⟨(.ext (.tmp (pth 34)) 1), opAt P 3 7 3, (some (pth 37)), none⟩,
⟨(.mv (.tmp (pth 36))), opAt P 3 7 4, (some (pth 12)), none⟩,
⟨(.mv (.tmp (pth 37))), opAt P 3 7 5, (some (pth 13)), none⟩])
(.seq (.seqr [⟨(.mv (.tmp (pth 6))), opAt P 3 8 0, (some (pth 38)), none⟩,
⟨(.bin .eql (.tmp (pth 38)) (.val (.int .i64 (0)))), opAt P 3 8 1, (some (pth 39)), none⟩,
⟨(.mv (.tmp (pth 39))), opAt P 3 8 2, (some (pth 40)), none⟩,
⟨(.mv (.tmp (pth 7))), opAt P 3 8 3, (some (pth 41)), (some ((pth 40), true))⟩,
⟨(.bin .eql (.tmp (pth 41)) (.val (.int .i64 (1)))), opAt P 3 8 4, (some (pth 42)), (some ((pth 40), true))⟩,
⟨(.pick (.tmp (pth 40)) (.tmp (pth 42)) (.val (.bool false))), opAt P 3 8 5, (some (pth 43)), none⟩,
⟨(.mv (.tmp (pth 43))), opAt P 3 8 6, (some (pth 44)), none⟩,
⟨(.mv (.tmp (pth 9))), opAt P 3 8 7, (some (pth 45)), (some ((pth 44), true))⟩,
⟨(.bin .eql (.tmp (pth 45)) (.val (.int .i64 (7)))), opAt P 3 8 8, (some (pth 46)), (some ((pth 44), true))⟩,
⟨(.pick (.tmp (pth 44)) (.tmp (pth 46)) (.val (.bool false))), opAt P 3 8 9, (some (pth 47)), none⟩,
⟨(.mv (.tmp (pth 47))), opAt P 3 8 10, (some (pth 48)), none⟩,
⟨(.mv (.tmp (pth 5))), opAt P 3 8 11, (some (pth 49)), (some ((pth 48), true))⟩,
⟨(.mv (.tmp (pth 1))), opAt P 3 8 12, (some (pth 50)), (some ((pth 48), true))⟩,
⟨(.mv (.tmp (pth 0))), opAt P 3 8 13, (some (pth 51)), (some ((pth 48), true))⟩,
⟨(.call 8 [(.tmp (pth 49)), (.tmp (pth 50)), (.tmp (pth 51))]), opAt P 3 8 14, (some (pth 52)), (some ((pth 48), true))⟩,
⟨(.bin .eql (.tmp (pth 52)) (.val (.int .i64 (1)))), opAt P 3 8 15, (some (pth 53)), (some ((pth 48), true))⟩,
⟨(.pick (.tmp (pth 48)) (.tmp (pth 53)) (.val (.bool false))), opAt P 3 8 16, (some (pth 54)), none⟩,
⟨(.mv (.tmp (pth 54))), opAt P 3 8 17, (some (pth 55)), none⟩,
⟨(.mv (.tmp (pth 5))), opAt P 3 8 18, (some (pth 56)), (some ((pth 55), true))⟩,
⟨(.call 9 [(.tmp (pth 56))]), opAt P 3 8 19, (some (pth 57)), (some ((pth 55), true))⟩,
⟨(.bin .eql (.tmp (pth 57)) (.val (.int .i64 (1)))), opAt P 3 8 20, (some (pth 58)), (some ((pth 55), true))⟩,
⟨(.pick (.tmp (pth 55)) (.tmp (pth 58)) (.val (.bool false))), opAt P 3 8 21, (some (pth 59)), none⟩,
⟨(.mv (.tmp (pth 59))), opAt P 3 8 22, (some (pth 60)), none⟩,
⟨(.mv (.tmp (pth 10))), opAt P 3 8 23, (some (pth 61)), (some ((pth 60), true))⟩,
⟨(.bin .eql (.tmp (pth 61)) (.val (.int .i64 (0)))), opAt P 3 8 24, (some (pth 62)), (some ((pth 60), true))⟩,
⟨(.pick (.tmp (pth 60)) (.tmp (pth 62)) (.val (.bool false))), opAt P 3 8 25, (some (pth 63)), none⟩,
⟨(.mv (.tmp (pth 63))), opAt P 3 8 26, (some (pth 64)), none⟩,
⟨(.mv (.tmp (pth 11))), opAt P 3 8 27, (some (pth 65)), (some ((pth 64), true))⟩,
⟨.slow, opAt P 3 8 28, (some (pth 66)), (some ((pth 64), true))⟩,
⟨(.bin .eql (.tmp (pth 66)) (.val (.int .i64 (0)))), opAt P 3 8 29, (some (pth 67)), (some ((pth 64), true))⟩,
⟨(.pick (.tmp (pth 64)) (.tmp (pth 67)) (.val (.bool false))), opAt P 3 8 30, (some (pth 68)), none⟩,
⟨(.mv (.tmp (pth 68))), opAt P 3 8 31, (some (pth 69)), none⟩,
⟨(.mv (.tmp (pth 5))), opAt P 3 8 32, (some (pth 70)), (some ((pth 69), true))⟩,
⟨(.call 10 [(.tmp (pth 70))]), opAt P 3 8 33, (some (pth 71)), (some ((pth 69), true))⟩,
⟨(.bin .eql (.tmp (pth 71)) (.val (.int .i64 (0)))), opAt P 3 8 34, (some (pth 72)), (some ((pth 69), true))⟩,
⟨(.pick (.tmp (pth 69)) (.tmp (pth 72)) (.val (.bool false))), opAt P 3 8 35, (some (pth 73)), none⟩,
⟨(.mv (.tmp (pth 73))), opAt P 3 8 36, (some (pth 74)), none⟩,
⟨(.mv (.tmp (pth 12))), opAt P 3 8 37, (some (pth 75)), (some ((pth 74), true))⟩,
⟨(.bin .eql (.tmp (pth 75)) (.val (.pointer none))), opAt P 3 8 38, (some (pth 76)), (some ((pth 74), true))⟩,
⟨(.pick (.tmp (pth 74)) (.tmp (pth 76)) (.val (.bool false))), opAt P 3 8 39, (some (pth 77)), none⟩,
⟨(.mv (.tmp (pth 77))), opAt P 3 8 40, (some (pth 78)), none⟩,
⟨(.mv (.tmp (pth 13))), opAt P 3 8 41, (some (pth 79)), (some ((pth 78), true))⟩,
⟨(.bin .eql (.tmp (pth 79)) (.val (.int .i64 (1)))), opAt P 3 8 42, (some (pth 80)), (some ((pth 78), true))⟩,
⟨(.pick (.tmp (pth 78)) (.tmp (pth 80)) (.val (.bool false))), opAt P 3 8 43, (some (pth 81)), none⟩,
⟨(.mv (.tmp (pth 81))), opAt P 3 8 44, (some (pth 82)), none⟩,
⟨(.call 11 []), opAt P 3 8 45, (some (pth 83)), (some ((pth 82), true))⟩,
⟨(.pick (.tmp (pth 82)) (.tmp (pth 83)) (.val (.bool false))), opAt P 3 8 46, (some (pth 84)), none⟩,
⟨(.mv (.tmp (pth 84))), opAt P 3 8 47, (some (pth 4)), none⟩])
.ret)))))))), [.tmp (pth 4)]⟩
theorem cf3_ok : cFn Tryd.prog 3 = some (cf3 Tryd.prog) := by kernel_rfl
def cf4 (P : Program) : FF := ⟨79, (.seq (.seqr [⟨(.mv (.val (.int .i64 (0)))), opAt P 4 0 0, (some (pth 4)), none⟩,
⟨(.mv (.val (.int .i64 (0)))), opAt P 4 0 1, (some (pth 5)), none⟩])
(.seq (.seq (.seqr [⟨(.mv (.tmp (pth 0))), opAt P 4 1 0, (some (pth 12)), none⟩,
⟨(.call 12 [(.tmp (pth 12))]), opAt P 4 1 1, (some (pth 13)), none⟩,
⟨(.mv (.tmp (pth 13))), opAt P 4 1 2, (some (pth 6)), none⟩])
(.seq (.seqr [⟨(.mv (.tmp (pth 6))), opAt P 4 2 0, (some (pth 14)), none⟩,
⟨(.bin .neq (.tmp (pth 14)) (.val (.int .i64 (0)))), opAt P 4 2 1, (some (pth 15)), none⟩])
(.cond (.tmp (pth 15)) (.seq (.seqr [⟨(.mv (.tmp (pth 6))), opAt P 4 3 0, (some (pth 16)), none⟩,
⟨(.mv (.val (.int .i64 (0)))), opAt P 4 3 1, (some (pth 4)), none⟩,
⟨(.mv (.tmp (pth 16))), opAt P 4 3 2, (some (pth 5)), none⟩])
.ret)
.skip)))
(.seq (.seqr [⟨(.mv (.tmp (pth 0))), opAt P 4 4 0, (some (pth 17)), none⟩,
⟨(.call 10 [(.tmp (pth 17))]), opAt P 4 4 1, (some (pth 18)), none⟩,
⟨(.bin .add (.tmp (pth 18)) (.val (.int .i64 (1)))), opAt P 4 4 2, (some (pth 19)), none⟩,
⟨(.mv (.tmp (pth 19))), opAt P 4 4 3, (some (pth 7)), none⟩])
(.seq (.seq (.seqr [⟨(.mv (.tmp (pth 1))), opAt P 4 5 0, (some (pth 20)), none⟩,
⟨.slow, opAt P 4 5 1, (some (pth 21)), none⟩,
⟨(.bin .gtr (.tmp (pth 21)) (.val (.int .i64 (65536)))), opAt P 4 5 2, (some (pth 22)), none⟩,
⟨(.mv (.tmp (pth 22))), opAt P 4 5 3, (some (pth 23)), none⟩,
⟨(.mv (.tmp (pth 7))), opAt P 4 5 4, (some (pth 24)), (some ((pth 23), false))⟩,
⟨(.bin .gtr (.tmp (pth 24)) (.val (.int .i64 (1099511627776)))), opAt P 4 5 5, (some (pth 25)), (some ((pth 23), false))⟩,
⟨(.pick (.tmp (pth 23)) (.val (.bool true)) (.tmp (pth 25))), opAt P 4 5 6, (some (pth 26)), none⟩])
(.cond (.tmp (pth 26)) (.seq (.seqr [⟨(.mv (.val (.int .i64 (0)))), opAt P 4 6 0, (some (pth 4)), none⟩,
⟨(.mv (.val (.int .i64 (5)))), opAt P 4 6 1, (some (pth 5)), none⟩])
.ret)
.skip))
(.seq (.seqr [⟨(.mv (.tmp (pth 7))), opAt P 4 7 0, (some (pth 28)), none⟩,
⟨(.mv (.tmp (pth 1))), opAt P 4 7 1, (some (pth 29)), none⟩,
⟨(.call 14 [(.tmp (pth 28)), (.tmp (pth 29))]), opAt P 4 7 2, (some (pth 30)), none⟩,
⟨.slow, opAt P 4 7 3, (some (pth 31)), none⟩,
⟨(.call 13 [(.tmp (pth 31))]), opAt P 4 7 4, (some (pth 32)), none⟩,
⟨(.mv (.tmp (pth 32))), opAt P 4 7 5, (some (pth 27)), none⟩,
⟨(.ext (.tmp (pth 27)) 0), opAt P 4 7 6, (some (pth 33)), none⟩,
⟨(.ext (.tmp (pth 27)) 1), opAt P 4 7 7, (some (pth 34)), none⟩,
⟨(.mv (.tmp (pth 33))), opAt P 4 7 8, (some (pth 8)), none⟩,
⟨(.mv (.tmp (pth 34))), opAt P 4 7 9, (some (pth 9)), none⟩])
(.seq (.seq (.seqr [⟨(.mv (.tmp (pth 9))), opAt P 4 8 0, (some (pth 35)), none⟩,
⟨(.bin .neq (.tmp (pth 35)) (.val (.int .i64 (0)))), opAt P 4 8 1, (some (pth 36)), none⟩])
(.cond (.tmp (pth 36)) (.seq (.seqr [⟨(.mv (.tmp (pth 0))), opAt P 4 9 0, (some (pth 37)), none⟩,
⟨(.mv (.tmp (pth 9))), opAt P 4 9 1, (some (pth 38)), none⟩,
⟨(.call 15 [(.tmp (pth 37)), (.tmp (pth 38))]), opAt P 4 9 2, (some (pth 39)), none⟩,
⟨(.mv (.val (.int .i64 (0)))), opAt P 4 9 3, (some (pth 4)), none⟩,
⟨(.mv (.tmp (pth 39))), opAt P 4 9 4, (some (pth 5)), none⟩])
.ret)
.skip))
(.seq (.seq (.reg [⟨(.mv (.tmp (pth 0))), opAt P 4 10 0, (some (pth 40)), none⟩,
⟨(.nc (.tmp (pth 40))), opAt P 4 10 1, (some (pth 41)), none⟩,
⟨(.fa (.tmp (pth 41)) 0), opAt P 4 10 2, (some (pth 42)), none⟩,
⟨(.ld 41 (.tmp (pth 42))), opAt P 4 10 3, (some (pth 43)), none⟩,
⟨(.mv (.tmp (pth 0))), opAt P 4 10 4, (some (pth 44)), none⟩,
⟨(.call 17 [(.tmp (pth 44))]), opAt P 4 10 5, (some (pth 45)), none⟩,
⟨(.mv (.tmp (pth 8))), opAt P 4 10 6, (some (pth 46)), none⟩,
⟨.slow, opAt P 4 10 7, (some (pth 47)), none⟩,
⟨(.call 16 [(.tmp (pth 43)), (.tmp (pth 45)), (.tmp (pth 47))]), opAt P 4 10 8, (some (pth 48)), none⟩,
⟨(.mv (.tmp (pth 48))), opAt P 4 10 9, (some (pth 10)), none⟩] [(3, 5), (3, 7), (5, 7)])
(.seq (.seqr [⟨(.mv (.tmp (pth 10))), opAt P 4 11 0, (some (pth 49)), none⟩,
⟨(.bin .neq (.tmp (pth 49)) (.val (.int .i64 (0)))), opAt P 4 11 1, (some (pth 50)), none⟩])
(.cond (.tmp (pth 50)) (.seq (.seqr [⟨(.mv (.tmp (pth 0))), opAt P 4 12 0, (some (pth 51)), none⟩,
⟨(.mv (.tmp (pth 10))), opAt P 4 12 1, (some (pth 52)), none⟩,
⟨(.call 15 [(.tmp (pth 51)), (.tmp (pth 52))]), opAt P 4 12 2, (some (pth 53)), none⟩,
⟨(.mv (.val (.int .i64 (0)))), opAt P 4 12 3, (some (pth 4)), none⟩,
⟨(.mv (.tmp (pth 53))), opAt P 4 12 4, (some (pth 5)), none⟩])
.ret)
.skip)))
(.seq (.seq (.reg [⟨(.mv (.tmp (pth 0))), opAt P 4 13 0, (some (pth 54)), none⟩,
⟨(.nc (.tmp (pth 54))), opAt P 4 13 1, (some (pth 55)), none⟩,
⟨(.fa (.tmp (pth 55)) 0), opAt P 4 13 2, (some (pth 56)), none⟩,
⟨(.ld 41 (.tmp (pth 56))), opAt P 4 13 3, (some (pth 57)), none⟩,
⟨(.mv (.tmp (pth 0))), opAt P 4 13 4, (some (pth 58)), none⟩,
⟨(.call 17 [(.tmp (pth 58))]), opAt P 4 13 5, (some (pth 59)), none⟩,
⟨.slow, opAt P 4 13 6, (some (pth 60)), none⟩,
⟨(.call 18 [(.tmp (pth 57)), (.tmp (pth 60))]), opAt P 4 13 7, (some (pth 61)), none⟩,
⟨(.mv (.tmp (pth 61))), opAt P 4 13 8, (some (pth 11)), none⟩] [(3, 5), (3, 6)])
(.seq (.seqr [⟨(.mv (.tmp (pth 11))), opAt P 4 14 0, (some (pth 62)), none⟩,
⟨(.bin .neq (.tmp (pth 62)) (.val (.int .i64 (0)))), opAt P 4 14 1, (some (pth 63)), none⟩])
(.cond (.tmp (pth 63)) (.seq (.seqr [⟨(.mv (.tmp (pth 0))), opAt P 4 15 0, (some (pth 64)), none⟩,
⟨(.mv (.tmp (pth 11))), opAt P 4 15 1, (some (pth 65)), none⟩,
⟨(.call 15 [(.tmp (pth 64)), (.tmp (pth 65))]), opAt P 4 15 2, (some (pth 66)), none⟩,
⟨(.mv (.val (.int .i64 (0)))), opAt P 4 15 3, (some (pth 4)), none⟩,
⟨(.mv (.tmp (pth 66))), opAt P 4 15 4, (some (pth 5)), none⟩])
.ret)
.skip)))
(.seq (.reg [⟨(.mv (.tmp (pth 0))), opAt P 4 16 0, (some (pth 67)), none⟩,
⟨(.mv (.tmp (pth 0))), opAt P 4 16 1, (some (pth 68)), none⟩,
⟨(.nc (.tmp (pth 68))), opAt P 4 16 2, (some (pth 69)), none⟩,
⟨(.fa (.tmp (pth 69)) 4), opAt P 4 16 3, (some (pth 70)), none⟩,
⟨(.ld 42 (.tmp (pth 70))), opAt P 4 16 4, (some (pth 71)), none⟩,
⟨(.mv (.tmp (pth 1))), opAt P 4 16 5, (some (pth 72)), none⟩,
⟨(.call 19 [(.tmp (pth 72))]), opAt P 4 16 6, (some (pth 73)), none⟩,
⟨.slow, opAt P 4 16 7, (some (pth 74)), none⟩,
⟨.slow, opAt P 4 16 8, (some (pth 75)), none⟩,
⟨(.nc (.tmp (pth 67))), opAt P 4 16 9, (some (pth 76)), none⟩,
⟨(.fa (.tmp (pth 76)) 4), opAt P 4 16 10, (some (pth 77)), none⟩,
⟨(.st 42 (.tmp (pth 77)) (.tmp (pth 75))), opAt P 4 16 11, none, none⟩] [(4, 6), (4, 7)])
(.seq (.seqr [⟨(.mv (.tmp (pth 7))), opAt P 4 17 0, (some (pth 78)), none⟩,
⟨(.mv (.tmp (pth 78))), opAt P 4 17 1, (some (pth 4)), none⟩,
⟨(.mv (.val (.int .i64 (0)))), opAt P 4 17 2, (some (pth 5)), none⟩])
.ret)))))))))), [.tmp (pth 4), .tmp (pth 5)]⟩
theorem cf4_ok : cFn Tryd.prog 4 = some (cf4 Tryd.prog) := by kernel_rfl
def cf5 (P : Program) : FF := ⟨36, (.seq (.seqr [⟨(.mv (.val (.slice none 0 0))), opAt P 5 0 0, (some (pth 4)), none⟩,
⟨(.mv (.val (.int .i64 (0)))), opAt P 5 0 1, (some (pth 5)), none⟩])
(.seq (.seq (.seqr [⟨(.mv (.tmp (pth 0))), opAt P 5 1 0, (some (pth 6)), none⟩,
⟨(.bin .eql (.tmp (pth 6)) (.val (.pointer none))), opAt P 5 1 1, (some (pth 7)), none⟩,
⟨(.mv (.tmp (pth 7))), opAt P 5 1 2, (some (pth 8)), none⟩,
⟨(.mv (.tmp (pth 1))), opAt P 5 1 3, (some (pth 9)), (some ((pth 8), false))⟩,
⟨(.mv (.tmp (pth 0))), opAt P 5 1 4, (some (pth 10)), (some ((pth 8), false))⟩,
⟨(.nc (.tmp (pth 10))), opAt P 5 1 5, (some (pth 11)), (some ((pth 8), false))⟩,
⟨(.fa (.tmp (pth 11)) 2), opAt P 5 1 6, (some (pth 12)), (some ((pth 8), false))⟩,
⟨(.ld 3 (.tmp (pth 12))), opAt P 5 1 7, (some (pth 13)), (some ((pth 8), false))⟩,
⟨(.bin .leq (.tmp (pth 9)) (.tmp (pth 13))), opAt P 5 1 8, (some (pth 14)), (some ((pth 8), false))⟩,
⟨(.pick (.tmp (pth 8)) (.val (.bool true)) (.tmp (pth 14))), opAt P 5 1 9, (some (pth 15)), none⟩,
⟨(.mv (.tmp (pth 15))), opAt P 5 1 10, (some (pth 16)), none⟩,
⟨(.mv (.tmp (pth 1))), opAt P 5 1 11, (some (pth 17)), (some ((pth 16), false))⟩,
⟨(.mv (.tmp (pth 0))), opAt P 5 1 12, (some (pth 18)), (some ((pth 16), false))⟩,
⟨(.call 10 [(.tmp (pth 18))]), opAt P 5 1 13, (some (pth 19)), (some ((pth 16), false))⟩,
⟨(.bin .gtr (.tmp (pth 17)) (.tmp (pth 19))), opAt P 5 1 14, (some (pth 20)), (some ((pth 16), false))⟩,
⟨(.pick (.tmp (pth 16)) (.val (.bool true)) (.tmp (pth 20))), opAt P 5 1 15, (some (pth 21)), none⟩])
(.cond (.tmp (pth 21)) (.seq (.seqr [⟨(.mv (.val (.slice none 0 0))), opAt P 5 2 0, (some (pth 4)), none⟩,
⟨(.mv (.val (.int .i64 (7)))), opAt P 5 2 1, (some (pth 5)), none⟩])
.ret)
.skip))
(.seq (.reg [⟨(.mv (.tmp (pth 0))), opAt P 5 3 0, (some (pth 22)), none⟩,
⟨(.nc (.tmp (pth 22))), opAt P 5 3 1, (some (pth 23)), none⟩,
⟨(.fa (.tmp (pth 23)) 4), opAt P 5 3 2, (some (pth 24)), none⟩,
⟨(.ld 42 (.tmp (pth 24))), opAt P 5 3 3, (some (pth 25)), none⟩,
⟨(.mv (.tmp (pth 1))), opAt P 5 3 4, (some (pth 26)), none⟩,
⟨(.mv (.tmp (pth 0))), opAt P 5 3 5, (some (pth 27)), none⟩,
⟨(.nc (.tmp (pth 27))), opAt P 5 3 6, (some (pth 28)), none⟩,
⟨(.fa (.tmp (pth 28)) 2), opAt P 5 3 7, (some (pth 29)), none⟩,
⟨(.ld 3 (.tmp (pth 29))), opAt P 5 3 8, (some (pth 30)), none⟩,
⟨(.bin .sub (.tmp (pth 26)) (.tmp (pth 30))), opAt P 5 3 9, (some (pth 31)), none⟩,
⟨(.bin .sub (.tmp (pth 31)) (.val (.int .i64 (1)))), opAt P 5 3 10, (some (pth 32)), none⟩,
⟨(.ia (.tmp (pth 25)) (.tmp (pth 32)) 1), opAt P 5 3 11, (some (pth 33)), none⟩,
⟨(.ld 22 (.tmp (pth 33))), opAt P 5 3 12, (some (pth 34)), none⟩,
⟨(.call 19 [(.tmp (pth 34))]), opAt P 5 3 13, (some (pth 35)), none⟩,
⟨(.mv (.tmp (pth 35))), opAt P 5 3 14, (some (pth 4)), none⟩,
⟨(.mv (.val (.int .i64 (0)))), opAt P 5 3 15, (some (pth 5)), none⟩] [(3, 8), (3, 9), (3, 10)])
.ret))), [.tmp (pth 4), .tmp (pth 5)]⟩
theorem cf5_ok : cFn Tryd.prog 5 = some (cf5 Tryd.prog) := by kernel_rfl
def cf6 (P : Program) : FF := ⟨15, (.seq (.seqr [⟨(.mv (.val (.int .i64 (0)))), opAt P 6 0 0, (some (pth 2)), none⟩,
⟨(.mv (.val (.slice none 0 0))), opAt P 6 0 1, (some (pth 3)), none⟩])
(.seq (.seq (.seqr [⟨(.mv (.tmp (pth 0))), opAt P 6 1 0, (some (pth 4)), none⟩,
⟨(.bin .eql (.tmp (pth 4)) (.val (.pointer none))), opAt P 6 1 1, (some (pth 5)), none⟩])
(.cond (.tmp (pth 5)) (.seq (.seqr [⟨(.mv (.val (.int .i64 (0)))), opAt P 6 2 0, (some (pth 2)), none⟩,
⟨(.mv (.val (.slice none 0 0))), opAt P 6 2 1, (some (pth 3)), none⟩])
.ret)
.skip))
(.seq (.reg [⟨(.mv (.tmp (pth 0))), opAt P 6 3 0, (some (pth 6)), none⟩,
⟨(.nc (.tmp (pth 6))), opAt P 6 3 1, (some (pth 7)), none⟩,
⟨(.fa (.tmp (pth 7)) 2), opAt P 6 3 2, (some (pth 8)), none⟩,
⟨(.ld 3 (.tmp (pth 8))), opAt P 6 3 3, (some (pth 9)), none⟩,
⟨(.mv (.tmp (pth 0))), opAt P 6 3 4, (some (pth 10)), none⟩,
⟨(.nc (.tmp (pth 10))), opAt P 6 3 5, (some (pth 11)), none⟩,
⟨(.fa (.tmp (pth 11)) 3), opAt P 6 3 6, (some (pth 12)), none⟩,
⟨(.ld 22 (.tmp (pth 12))), opAt P 6 3 7, (some (pth 13)), none⟩,
⟨(.call 19 [(.tmp (pth 13))]), opAt P 6 3 8, (some (pth 14)), none⟩,
⟨(.mv (.tmp (pth 9))), opAt P 6 3 9, (some (pth 2)), none⟩,
⟨(.mv (.tmp (pth 14))), opAt P 6 3 10, (some (pth 3)), none⟩] [(3, 7), (3, 8)])
.ret))), [.tmp (pth 2), .tmp (pth 3)]⟩
theorem cf6_ok : cFn Tryd.prog 6 = some (cf6 Tryd.prog) := by kernel_rfl
def cf7 (P : Program) : FF := ⟨30, (.seq (.seqr [⟨(.mv (.val (.pointer none))), opAt P 7 0 0, (some (pth 4)), none⟩,
⟨(.mv (.val (.int .i64 (0)))), opAt P 7 0 1, (some (pth 5)), none⟩])
(.seq (.seq (.seqr [⟨(.mv (.tmp (pth 0))), opAt P 7 1 0, (some (pth 8)), none⟩,
⟨(.bin .eql (.tmp (pth 8)) (.val (.pointer none))), opAt P 7 1 1, (some (pth 9)), none⟩,
⟨(.mv (.tmp (pth 9))), opAt P 7 1 2, (some (pth 10)), none⟩,
⟨(.mv (.tmp (pth 1))), opAt P 7 1 3, (some (pth 11)), (some ((pth 10), false))⟩,
⟨.slow, opAt P 7 1 4, (some (pth 12)), (some ((pth 10), false))⟩,
⟨(.bin .lss (.tmp (pth 12)) (.val (.int .i64 (1)))), opAt P 7 1 5, (some (pth 13)), (some ((pth 10), false))⟩,
⟨(.pick (.tmp (pth 10)) (.val (.bool true)) (.tmp (pth 13))), opAt P 7 1 6, (some (pth 14)), none⟩,
⟨(.mv (.tmp (pth 14))), opAt P 7 1 7, (some (pth 15)), none⟩,
⟨(.mv (.tmp (pth 1))), opAt P 7 1 8, (some (pth 16)), (some ((pth 15), false))⟩,
⟨.slow, opAt P 7 1 9, (some (pth 17)), (some ((pth 15), false))⟩,
⟨(.bin .gtr (.tmp (pth 17)) (.val (.int .i64 (20)))), opAt P 7 1 10, (some (pth 18)), (some ((pth 15), false))⟩,
⟨(.pick (.tmp (pth 15)) (.val (.bool true)) (.tmp (pth 18))), opAt P 7 1 11, (some (pth 19)), none⟩])
(.cond (.tmp (pth 19)) (.seq (.seqr [⟨(.mv (.val (.pointer none))), opAt P 7 2 0, (some (pth 4)), none⟩,
⟨(.mv (.val (.int .i64 (1)))), opAt P 7 2 1, (some (pth 5)), none⟩])
.ret)
.skip))
(.seq (.seqr [⟨(.mv (.tmp (pth 0))), opAt P 7 3 0, (some (pth 20)), none⟩,
⟨(.mv (.tmp (pth 1))), opAt P 7 3 1, (some (pth 21)), none⟩,
⟨.slow, opAt P 7 3 2, (some (pth 22)), none⟩,
⟨.slow, opAt P 7 3 3, (some (pth 23)), none⟩,
⟨(.mv (.tmp (pth 23))), opAt P 7 3 4, (some (pth 6)), none⟩])
(.seq (.seq (.seqr [⟨(.mv (.tmp (pth 6))), opAt P 7 4 0, (some (pth 24)), none⟩,
⟨(.call 20 [(.tmp (pth 24))]), opAt P 7 4 1, (some (pth 25)), none⟩,
⟨(.mv (.tmp (pth 25))), opAt P 7 4 2, (some (pth 7)), none⟩])
(.seq (.seqr [⟨(.mv (.tmp (pth 7))), opAt P 7 5 0, (some (pth 26)), none⟩,
⟨(.bin .neq (.tmp (pth 26)) (.val (.int .i64 (0)))), opAt P 7 5 1, (some (pth 27)), none⟩])
(.cond (.tmp (pth 27)) (.seq (.seqr [⟨(.mv (.tmp (pth 7))), opAt P 7 6 0, (some (pth 28)), none⟩,
⟨(.mv (.val (.pointer none))), opAt P 7 6 1, (some (pth 4)), none⟩,
⟨(.mv (.tmp (pth 28))), opAt P 7 6 2, (some (pth 5)), none⟩])
.ret)
.skip)))
(.seq (.seqr [⟨(.mv (.tmp (pth 6))), opAt P 7 7 0, (some (pth 29)), none⟩,
⟨(.mv (.tmp (pth 29))), opAt P 7 7 1, (some (pth 4)), none⟩,
⟨(.mv (.val (.int .i64 (0)))), opAt P 7 7 2, (some (pth 5)), none⟩])
.ret))))), [.tmp (pth 4), .tmp (pth 5)]⟩
theorem cf7_ok : cFn Tryd.prog 7 = some (cf7 Tryd.prog) := by kernel_rfl
def cf8 (P : Program) : FF := ⟨63, (.seq (.seqr [⟨(.mv (.val (.int .i64 (0)))), opAt P 8 0 0, (some (pth 6)), none⟩])
(.seq (.seq (.seqr [⟨(.mv (.tmp (pth 0))), opAt P 8 1 0, (some (pth 10)), none⟩,
⟨(.call 12 [(.tmp (pth 10))]), opAt P 8 1 1, (some (pth 11)), none⟩,
⟨(.mv (.tmp (pth 11))), opAt P 8 1 2, (some (pth 7)), none⟩])
(.seq (.seqr [⟨(.mv (.tmp (pth 7))), opAt P 8 2 0, (some (pth 12)), none⟩,
⟨(.bin .neq (.tmp (pth 12)) (.val (.int .i64 (0)))), opAt P 8 2 1, (some (pth 13)), none⟩])
(.cond (.tmp (pth 13)) (.seq (.seqr [⟨(.mv (.tmp (pth 7))), opAt P 8 3 0, (some (pth 14)), none⟩,
⟨(.mv (.tmp (pth 14))), opAt P 8 3 1, (some (pth 6)), none⟩])
.ret)
.skip)))
(.seq (.seq (.seqr [⟨(.mv (.tmp (pth 1))), opAt P 8 4 0, (some (pth 15)), none⟩,
⟨(.mv (.tmp (pth 0))), opAt P 8 4 1, (some (pth 16)), none⟩,
⟨(.call 10 [(.tmp (pth 16))]), opAt P 8 4 2, (some (pth 17)), none⟩,
⟨(.bin .lss (.tmp (pth 15)) (.tmp (pth 17))), opAt P 8 4 3, (some (pth 18)), none⟩,
⟨(.mv (.tmp (pth 18))), opAt P 8 4 4, (some (pth 19)), none⟩,
⟨(.mv (.tmp (pth 1))), opAt P 8 4 5, (some (pth 20)), (some ((pth 19), false))⟩,
⟨(.bin .gtr (.tmp (pth 20)) (.val (.int .i64 (1099511627776)))), opAt P 8 4 6, (some (pth 21)), (some ((pth 19), false))⟩,
⟨(.pick (.tmp (pth 19)) (.val (.bool true)) (.tmp (pth 21))), opAt P 8 4 7, (some (pth 22)), none⟩])
(.cond (.tmp (pth 22)) (.seq (.seqr [⟨(.mv (.val (.int .i64 (1)))), opAt P 8 5 0, (some (pth 6)), none⟩])
.ret)
.skip))
(.seq (.seq (.seqr [⟨(.mv (.tmp (pth 2))), opAt P 8 6 0, (some (pth 23)), none⟩,
⟨.slow, opAt P 8 6 1, (some (pth 24)), none⟩,
⟨(.bin .gtr (.tmp (pth 24)) (.val (.int .i64 (524288)))), opAt P 8 6 2, (some (pth 25)), none⟩])
(.cond (.tmp (pth 25)) (.seq (.seqr [⟨(.mv (.val (.int .i64 (5)))), opAt P 8 7 0, (some (pth 6)), none⟩])
.ret)
.skip))
(.seq (.seq (.reg [⟨(.mv (.tmp (pth 0))), opAt P 8 8 0, (some (pth 26)), none⟩,
⟨(.nc (.tmp (pth 26))), opAt P 8 8 1, (some (pth 27)), none⟩,
⟨(.fa (.tmp (pth 27)) 0), opAt P 8 8 2, (some (pth 28)), none⟩,
⟨(.ld 41 (.tmp (pth 28))), opAt P 8 8 3, (some (pth 29)), none⟩,
⟨(.mv (.tmp (pth 0))), opAt P 8 8 4, (some (pth 30)), none⟩,
⟨(.call 22 [(.tmp (pth 30))]), opAt P 8 8 5, (some (pth 31)), none⟩,
⟨(.mv (.tmp (pth 1))), opAt P 8 8 6, (some (pth 32)), none⟩,
⟨(.mv (.tmp (pth 2))), opAt P 8 8 7, (some (pth 33)), none⟩,
⟨(.call 14 [(.tmp (pth 32)), (.tmp (pth 33))]), opAt P 8 8 8, (some (pth 34)), none⟩,
⟨.slow, opAt P 8 8 9, (some (pth 35)), none⟩,
⟨(.call 21 [(.tmp (pth 29)), (.tmp (pth 31)), (.tmp (pth 35))]), opAt P 8 8 10, (some (pth 36)), none⟩,
⟨(.mv (.tmp (pth 36))), opAt P 8 8 11, (some (pth 8)), none⟩] [(3, 5), (3, 8), (3, 9)])
(.seq (.seqr [⟨(.mv (.tmp (pth 8))), opAt P 8 9 0, (some (pth 37)), none⟩,
⟨(.bin .neq (.tmp (pth 37)) (.val (.int .i64 (0)))), opAt P 8 9 1, (some (pth 38)), none⟩])
(.cond (.tmp (pth 38)) (.seq (.seqr [⟨(.mv (.tmp (pth 0))), opAt P 8 10 0, (some (pth 39)), none⟩,
⟨(.mv (.tmp (pth 8))), opAt P 8 10 1, (some (pth 40)), none⟩,
⟨(.call 15 [(.tmp (pth 39)), (.tmp (pth 40))]), opAt P 8 10 2, (some (pth 41)), none⟩,
⟨(.mv (.tmp (pth 41))), opAt P 8 10 3, (some (pth 6)), none⟩])
.ret)
.skip)))
(.seq (.seqr [⟨(.mv (.tmp (pth 0))), opAt P 8 11 0, (some (pth 42)), none⟩,
⟨(.mv (.tmp (pth 0))), opAt P 8 11 1, (some (pth 43)), none⟩,
⟨(.mv (.tmp (pth 0))), opAt P 8 11 2, (some (pth 44)), none⟩,
⟨(.mv (.tmp (pth 1))), opAt P 8 11 3, (some (pth 45)), none⟩,
⟨(.mv (.tmp (pth 2))), opAt P 8 11 4, (some (pth 46)), none⟩,
⟨(.call 19 [(.tmp (pth 46))]), opAt P 8 11 5, (some (pth 47)), none⟩,
⟨(.nc (.tmp (pth 42))), opAt P 8 11 6, (some (pth 48)), none⟩,
⟨(.fa (.tmp (pth 48)) 2), opAt P 8 11 7, (some (pth 49)), none⟩,
⟨(.st 3 (.tmp (pth 49)) (.tmp (pth 45))), opAt P 8 11 8, none, none⟩,
⟨(.nc (.tmp (pth 43))), opAt P 8 11 9, (some (pth 50)), none⟩,
⟨(.fa (.tmp (pth 50)) 3), opAt P 8 11 10, (some (pth 51)), none⟩,
⟨(.st 22 (.tmp (pth 51)) (.tmp (pth 47))), opAt P 8 11 11, none, none⟩,
⟨(.nc (.tmp (pth 44))), opAt P 8 11 12, (some (pth 52)), none⟩,
⟨(.fa (.tmp (pth 52)) 4), opAt P 8 11 13, (some (pth 53)), none⟩,
⟨(.st 42 (.tmp (pth 53)) (.val (.slice none 0 0))), opAt P 8 11 14, none, none⟩])
(.seq (.seq (.seqr [⟨(.mv (.tmp (pth 0))), opAt P 8 12 0, (some (pth 54)), none⟩,
⟨(.mv (.tmp (pth 0))), opAt P 8 12 1, (some (pth 55)), none⟩,
⟨(.call 17 [(.tmp (pth 55))]), opAt P 8 12 2, (some (pth 56)), none⟩,
⟨(.call 23 [(.tmp (pth 54)), (.tmp (pth 56))]), opAt P 8 12 3, (some (pth 57)), none⟩,
⟨(.mv (.tmp (pth 57))), opAt P 8 12 4, (some (pth 9)), none⟩])
(.seq (.seqr [⟨(.mv (.tmp (pth 9))), opAt P 8 13 0, (some (pth 58)), none⟩,
⟨(.bin .neq (.tmp (pth 58)) (.val (.int .i64 (0)))), opAt P 8 13 1, (some (pth 59)), none⟩])
(.cond (.tmp (pth 59)) (.seq (.seqr [⟨(.mv (.tmp (pth 0))), opAt P 8 14 0, (some (pth 60)), none⟩,
⟨(.mv (.tmp (pth 9))), opAt P 8 14 1, (some (pth 61)), none⟩,
⟨(.call 15 [(.tmp (pth 60)), (.tmp (pth 61))]), opAt P 8 14 2, (some (pth 62)), none⟩,
⟨(.mv (.tmp (pth 62))), opAt P 8 14 3, (some (pth 6)), none⟩])
.ret)
.skip)))
(.seq (.seqr [⟨(.mv (.val (.int .i64 (0)))), opAt P 8 15 0, (some (pth 6)), none⟩])
.ret)))))))), [.tmp (pth 6)]⟩
theorem cf8_ok : cFn Tryd.prog 8 = some (cf8 Tryd.prog) := by kernel_rfl
def cf9 (P : Program) : FF := ⟨24, (.seq (.seqr [⟨(.mv (.val (.int .i64 (0)))), opAt P 9 0 0, (some (pth 2)), none⟩])
(.seq (.seq (.seqr [⟨(.mv (.tmp (pth 0))), opAt P 9 1 0, (some (pth 5)), none⟩,
⟨(.call 12 [(.tmp (pth 5))]), opAt P 9 1 1, (some (pth 6)), none⟩,
⟨(.mv (.tmp (pth 6))), opAt P 9 1 2, (some (pth 3)), none⟩])
(.seq (.seqr [⟨(.mv (.tmp (pth 3))), opAt P 9 2 0, (some (pth 7)), none⟩,
⟨(.bin .neq (.tmp (pth 7)) (.val (.int .i64 (0)))), opAt P 9 2 1, (some (pth 8)), none⟩])
(.cond (.tmp (pth 8)) (.seq (.seqr [⟨(.mv (.tmp (pth 3))), opAt P 9 3 0, (some (pth 9)), none⟩,
⟨(.mv (.tmp (pth 9))), opAt P 9 3 1, (some (pth 2)), none⟩])
.ret)
.skip)))
(.seq (.seqr [⟨(.mv (.tmp (pth 0))), opAt P 9 4 0, (some (pth 10)), none⟩,
⟨(.nc (.tmp (pth 10))), opAt P 9 4 1, (some (pth 11)), none⟩,
⟨(.fa (.tmp (pth 11)) 5), opAt P 9 4 2, (some (pth 12)), none⟩,
⟨(.st 4 (.tmp (pth 12)) (.val (.bool true))), opAt P 9 4 3, none, none⟩])
(.seq (.seq (.seqr [⟨(.mv (.tmp (pth 0))), opAt P 9 5 0, (some (pth 13)), none⟩,
⟨(.mv (.tmp (pth 0))), opAt P 9 5 1, (some (pth 14)), none⟩,
⟨(.call 17 [(.tmp (pth 14))]), opAt P 9 5 2, (some (pth 15)), none⟩,
⟨(.call 23 [(.tmp (pth 13)), (.tmp (pth 15))]), opAt P 9 5 3, (some (pth 16)), none⟩,
⟨(.mv (.tmp (pth 16))), opAt P 9 5 4, (some (pth 4)), none⟩])
(.seq (.seqr [⟨(.mv (.tmp (pth 4))), opAt P 9 6 0, (some (pth 17)), none⟩,
⟨(.bin .neq (.tmp (pth 17)) (.val (.int .i64 (0)))), opAt P 9 6 1, (some (pth 18)), none⟩])
(.cond (.tmp (pth 18)) (.seq (.seqr [⟨(.mv (.tmp (pth 4))), opAt P 9 7 0, (some (pth 19)), none⟩,
⟨(.mv (.tmp (pth 19))), opAt P 9 7 1, (some (pth 2)), none⟩])
.ret)
.skip)))
(.seq (.seqr [⟨(.mv (.tmp (pth 0))), opAt P 9 8 0, (some (pth 20)), none⟩,
⟨(.mv (.tmp (pth 0))), opAt P 9 8 1, (some (pth 21)), none⟩,
⟨(.call 22 [(.tmp (pth 21))]), opAt P 9 8 2, (some (pth 22)), none⟩,
⟨(.call 23 [(.tmp (pth 20)), (.tmp (pth 22))]), opAt P 9 8 3, (some (pth 23)), none⟩,
⟨(.mv (.tmp (pth 23))), opAt P 9 8 4, (some (pth 2)), none⟩])
.ret))))), [.tmp (pth 2)]⟩
theorem cf9_ok : cFn Tryd.prog 9 = some (cf9 Tryd.prog) := by kernel_rfl
def cf10 (P : Program) : FF := ⟨15, (.seq (.seqr [⟨(.mv (.val (.int .i64 (0)))), opAt P 10 0 0, (some (pth 2)), none⟩])
(.seq (.seq (.seqr [⟨(.mv (.tmp (pth 0))), opAt P 10 1 0, (some (pth 3)), none⟩,
⟨(.bin .eql (.tmp (pth 3)) (.val (.pointer none))), opAt P 10 1 1, (some (pth 4)), none⟩])
(.cond (.tmp (pth 4)) (.seq (.seqr [⟨(.mv (.val (.int .i64 (0)))), opAt P 10 2 0, (some (pth 2)), none⟩])
.ret)
.skip))
(.seq (.reg [⟨(.mv (.tmp (pth 0))), opAt P 10 3 0, (some (pth 5)), none⟩,
⟨(.nc (.tmp (pth 5))), opAt P 10 3 1, (some (pth 6)), none⟩,
⟨(.fa (.tmp (pth 6)) 2), opAt P 10 3 2, (some (pth 7)), none⟩,
⟨(.ld 3 (.tmp (pth 7))), opAt P 10 3 3, (some (pth 8)), none⟩,
⟨(.mv (.tmp (pth 0))), opAt P 10 3 4, (some (pth 9)), none⟩,
⟨(.nc (.tmp (pth 9))), opAt P 10 3 5, (some (pth 10)), none⟩,
⟨(.fa (.tmp (pth 10)) 4), opAt P 10 3 6, (some (pth 11)), none⟩,
⟨(.ld 42 (.tmp (pth 11))), opAt P 10 3 7, (some (pth 12)), none⟩,
⟨.slow, opAt P 10 3 8, (some (pth 13)), none⟩,
⟨(.bin .add (.tmp (pth 8)) (.tmp (pth 13))), opAt P 10 3 9, (some (pth 14)), none⟩,
⟨(.mv (.tmp (pth 14))), opAt P 10 3 10, (some (pth 2)), none⟩] [(3, 7), (3, 8)])
.ret))), [.tmp (pth 2)]⟩
theorem cf10_ok : cFn Tryd.prog 10 = some (cf10 Tryd.prog) := by kernel_rfl
def cf11 (P : Program) : FF := ⟨69, (.seq (.seqr [⟨(.mv (.val (.bool false))), opAt P 11 0 0, (some (pth 0)), none⟩])
(.seq (.seqr [⟨(.call 24 [(.val (.int .i64 (65536)))]), opAt P 11 1 0, (some (pth 11)), none⟩,
⟨(.mv (.tmp (pth 11))), opAt P 11 1 1, (some (pth 10)), none⟩,
⟨(.ext (.tmp (pth 10)) 0), opAt P 11 1 2, (some (pth 12)), none⟩,
⟨(.ext (.tmp (pth 10)) 1), opAt P 11 1 3, (some (pth 13)), none⟩,
⟨(.mv (.tmp (pth 12))), opAt P 11 1 4, (some (pth 1)), none⟩,
⟨(.mv (.tmp (pth 13))), opAt P 11 1 5, (some (pth 2)), none⟩])
(.seq (.seqr [⟨(.mv (.tmp (pth 1))), opAt P 11 2 0, (some (pth 15)), none⟩,
⟨(.call 7 [(.tmp (pth 15)), (.val (.string ⟨#[97]⟩))]), opAt P 11 2 1, (some (pth 16)), none⟩,
⟨(.mv (.tmp (pth 16))), opAt P 11 2 2, (some (pth 14)), none⟩,
⟨(.ext (.tmp (pth 14)) 0), opAt P 11 2 3, (some (pth 17)), none⟩,
⟨(.ext (.tmp (pth 14)) 1), opAt P 11 2 4, (some (pth 18)), none⟩,
⟨(.mv (.tmp (pth 17))), opAt P 11 2 5, (some (pth 3)), none⟩,
⟨(.mv (.tmp (pth 18))), opAt P 11 2 6, (some (pth 4)), none⟩])
(.seq (.seq (.seqr [⟨(.mv (.tmp (pth 4))), opAt P 11 3 0, (some (pth 19)), none⟩,
⟨(.bin .neq (.tmp (pth 19)) (.val (.int .i64 (0)))), opAt P 11 3 1, (some (pth 20)), none⟩,
⟨(.mv (.tmp (pth 20))), opAt P 11 3 2, (some (pth 21)), none⟩,
⟨(.mv (.tmp (pth 3))), opAt P 11 3 3, (some (pth 22)), (some ((pth 21), false))⟩,
⟨(.bin .eql (.tmp (pth 22)) (.val (.pointer none))), opAt P 11 3 4, (some (pth 23)), (some ((pth 21), false))⟩,
⟨(.pick (.tmp (pth 21)) (.val (.bool true)) (.tmp (pth 23))), opAt P 11 3 5, (some (pth 24)), none⟩])
(.cond (.tmp (pth 24)) (.seq (.seqr [⟨(.mv (.val (.bool false))), opAt P 11 4 0, (some (pth 0)), none⟩])
.ret)
.skip))
(.seq (.seqr [⟨(.mv (.tmp (pth 3))), opAt P 11 5 0, (some (pth 25)), none⟩,
⟨.slow, opAt P 11 5 1, (some (pth 26)), none⟩,
⟨.slow, opAt P 11 5 2, (some (pth 27)), none⟩,
⟨(.call 4 [(.tmp (pth 25)), (.tmp (pth 27))]), opAt P 11 5 3, (some (pth 28)), none⟩])
(.seq (.seqr [⟨(.mv (.tmp (pth 3))), opAt P 11 6 0, (some (pth 29)), none⟩,
⟨.slow, opAt P 11 6 1, (some (pth 30)), none⟩,
⟨.slow, opAt P 11 6 2, (some (pth 31)), none⟩,
⟨(.call 8 [(.tmp (pth 29)), (.val (.int .i64 (1))), (.tmp (pth 31))]), opAt P 11 6 3, (some (pth 32)), none⟩,
⟨(.mv (.tmp (pth 32))), opAt P 11 6 4, (some (pth 5)), none⟩])
(.seq (.seqr [⟨(.mv (.tmp (pth 3))), opAt P 11 7 0, (some (pth 34)), none⟩,
⟨.slow, opAt P 11 7 1, (some (pth 35)), none⟩,
⟨.slow, opAt P 11 7 2, (some (pth 36)), none⟩,
⟨(.call 4 [(.tmp (pth 34)), (.tmp (pth 36))]), opAt P 11 7 3, (some (pth 37)), none⟩,
⟨(.mv (.tmp (pth 37))), opAt P 11 7 4, (some (pth 33)), none⟩,
⟨(.ext (.tmp (pth 33)) 0), opAt P 11 7 5, (some (pth 38)), none⟩,
⟨(.ext (.tmp (pth 33)) 1), opAt P 11 7 6, (some (pth 39)), none⟩,
⟨(.mv (.tmp (pth 38))), opAt P 11 7 7, (some (pth 6)), none⟩,
⟨(.mv (.tmp (pth 39))), opAt P 11 7 8, (some (pth 7)), none⟩])
(.seq (.seqr [⟨(.mv (.tmp (pth 3))), opAt P 11 8 0, (some (pth 41)), none⟩,
⟨(.call 6 [(.tmp (pth 41))]), opAt P 11 8 1, (some (pth 42)), none⟩,
⟨(.mv (.tmp (pth 42))), opAt P 11 8 2, (some (pth 40)), none⟩,
⟨(.ext (.tmp (pth 40)) 0), opAt P 11 8 3, (some (pth 43)), none⟩,
⟨(.ext (.tmp (pth 40)) 1), opAt P 11 8 4, (some (pth 44)), none⟩,
⟨(.mv (.tmp (pth 43))), opAt P 11 8 5, (some (pth 8)), none⟩,
⟨(.mv (.tmp (pth 44))), opAt P 11 8 6, (some (pth 9)), none⟩])
(.seq (.seqr [⟨(.mv (.tmp (pth 5))), opAt P 11 9 0, (some (pth 45)), none⟩,
⟨(.bin .eql (.tmp (pth 45)) (.val (.int .i64 (0)))), opAt P 11 9 1, (some (pth 46)), none⟩,
⟨(.mv (.tmp (pth 46))), opAt P 11 9 2, (some (pth 47)), none⟩,
⟨(.mv (.tmp (pth 7))), opAt P 11 9 3, (some (pth 48)), (some ((pth 47), true))⟩,
⟨(.bin .eql (.tmp (pth 48)) (.val (.int .i64 (0)))), opAt P 11 9 4, (some (pth 49)), (some ((pth 47), true))⟩,
⟨(.pick (.tmp (pth 47)) (.tmp (pth 49)) (.val (.bool false))), opAt P 11 9 5, (some (pth 50)), none⟩,
⟨(.mv (.tmp (pth 50))), opAt P 11 9 6, (some (pth 51)), none⟩,
⟨(.mv (.tmp (pth 6))), opAt P 11 9 7, (some (pth 52)), (some ((pth 51), true))⟩,
⟨(.bin .eql (.tmp (pth 52)) (.val (.int .i64 (2)))), opAt P 11 9 8, (some (pth 53)), (some ((pth 51), true))⟩,
⟨(.pick (.tmp (pth 51)) (.tmp (pth 53)) (.val (.bool false))), opAt P 11 9 9, (some (pth 54)), none⟩,
⟨(.mv (.tmp (pth 54))), opAt P 11 9 10, (some (pth 55)), none⟩,
⟨(.mv (.tmp (pth 8))), opAt P 11 9 11, (some (pth 56)), (some ((pth 55), true))⟩,
⟨(.bin .eql (.tmp (pth 56)) (.val (.int .i64 (1)))), opAt P 11 9 12, (some (pth 57)), (some ((pth 55), true))⟩,
⟨(.pick (.tmp (pth 55)) (.tmp (pth 57)) (.val (.bool false))), opAt P 11 9 13, (some (pth 58)), none⟩,
⟨(.mv (.tmp (pth 58))), opAt P 11 9 14, (some (pth 59)), none⟩,
⟨(.mv (.tmp (pth 9))), opAt P 11 9 15, (some (pth 60)), (some ((pth 59), true))⟩,
⟨.slow, opAt P 11 9 16, (some (pth 61)), (some ((pth 59), true))⟩,
⟨(.bin .eql (.tmp (pth 61)) (.val (.string ⟨#[121]⟩))), opAt P 11 9 17, (some (pth 62)), (some ((pth 59), true))⟩,
⟨(.pick (.tmp (pth 59)) (.tmp (pth 62)) (.val (.bool false))), opAt P 11 9 18, (some (pth 63)), none⟩,
⟨(.mv (.tmp (pth 63))), opAt P 11 9 19, (some (pth 64)), none⟩,
⟨(.mv (.tmp (pth 3))), opAt P 11 9 20, (some (pth 65)), (some ((pth 64), true))⟩,
⟨(.call 10 [(.tmp (pth 65))]), opAt P 11 9 21, (some (pth 66)), (some ((pth 64), true))⟩,
⟨(.bin .eql (.tmp (pth 66)) (.val (.int .i64 (2)))), opAt P 11 9 22, (some (pth 67)), (some ((pth 64), true))⟩,
⟨(.pick (.tmp (pth 64)) (.tmp (pth 67)) (.val (.bool false))), opAt P 11 9 23, (some (pth 68)), none⟩,
⟨(.mv (.tmp (pth 68))), opAt P 11 9 24, (some (pth 0)), none⟩])
.ret))))))))), [.tmp (pth 0)]⟩
theorem cf11_ok : cFn Tryd.prog 11 = some (cf11 Tryd.prog) := by kernel_rfl
def cf12 (P : Program) : FF := ⟨11, (.seq (.seqr [⟨(.mv (.val (.int .i64 (0)))), opAt P 12 0 0, (some (pth 2)), none⟩])
(.seq (.block 0 (.seq (.seqr [⟨(.mv (.tmp (pth 0))), opAt P 12 1 0, (some (pth 4)), none⟩,
⟨(.bin .eql (.tmp (pth 4)) (.val (.pointer none))), opAt P 12 1 1, (some (pth 5)), none⟩,
⟨(.mv (.tmp (pth 5))), opAt P 12 1 2, (some (pth 3)), none⟩])
(.cond (.tmp (pth 3)) (.seq (.seqr [⟨(.mv (.val (.int .i64 (1)))), opAt P 12 2 0, (some (pth 2)), none⟩])
.ret)
(.seq (.seqr [⟨(.mv (.tmp (pth 0))), opAt P 12 3 0, (some (pth 7)), none⟩,
⟨(.nc (.tmp (pth 7))), opAt P 12 3 1, (some (pth 8)), none⟩,
⟨(.fa (.tmp (pth 8)) 5), opAt P 12 3 2, (some (pth 9)), none⟩,
⟨(.ld 4 (.tmp (pth 9))), opAt P 12 3 3, (some (pth 10)), none⟩,
⟨(.mv (.tmp (pth 10))), opAt P 12 3 4, (some (pth 6)), none⟩])
(.cond (.tmp (pth 6)) (.seq (.seqr [⟨(.mv (.val (.int .i64 (9)))), opAt P 12 4 0, (some (pth 2)), none⟩])
.ret)
.skip)))))
(.seq (.seqr [⟨(.mv (.val (.int .i64 (0)))), opAt P 12 5 0, (some (pth 2)), none⟩])
.ret))), [.tmp (pth 2)]⟩
theorem cf12_ok : cFn Tryd.prog 12 = some (cf12 Tryd.prog) := by kernel_rfl
def cf13 (P : Program) : FF := ⟨51, (.seq (.seqr [⟨(.mv (.val (.slice none 0 0))), opAt P 13 0 0, (some (pth 2)), none⟩,
⟨(.mv (.val (.int .i64 (0)))), opAt P 13 0 1, (some (pth 3)), none⟩])
(.seq (.seqr [⟨(.mv (.val (.int .i64 (0)))), opAt P 13 1 0, (some (pth 4)), none⟩])
(.seq (.seq (.seqr [⟨(.mv (.tmp (pth 0))), opAt P 13 2 0, (some (pth 10)), none⟩,
⟨.slow, opAt P 13 2 1, (some (pth 11)), none⟩,
⟨(.mv (.val (.int .i64 (0)))), opAt P 13 2 2, (some (pth 12)), none⟩])
(.block 0 (.loop (.seq (.seqr [⟨(.bin .lss (.tmp (pth 12)) (.tmp (pth 11))), opAt P 13 3 0, (some (pth 13)), none⟩])
(.seq (.cond (.tmp (pth 13)) .skip
(.exit 0))
(.seq (.block 1 (.seq (.seqr [⟨(.ia (.tmp (pth 10)) (.tmp (pth 12)) 1), opAt P 13 4 0, (some (pth 14)), none⟩,
⟨(.ld 22 (.tmp (pth 14))), opAt P 13 4 1, (some (pth 15)), none⟩,
⟨(.mv (.tmp (pth 15))), opAt P 13 4 2, (some (pth 6)), none⟩])
(.seqr [⟨(.mv (.tmp (pth 4))), opAt P 13 5 0, (some (pth 16)), none⟩,
⟨(.mv (.tmp (pth 6))), opAt P 13 5 1, (some (pth 17)), none⟩,
⟨.slow, opAt P 13 5 2, (some (pth 18)), none⟩,
⟨(.bin .add (.tmp (pth 16)) (.tmp (pth 18))), opAt P 13 5 3, (some (pth 19)), none⟩,
⟨(.mv (.tmp (pth 19))), opAt P 13 5 4, (some (pth 4)), none⟩])))
(.seqr [⟨(.bin .add (.tmp (pth 12)) (.val (.int .i64 (1)))), opAt P 13 6 0, (some (pth 20)), none⟩,
⟨(.mv (.tmp (pth 20))), opAt P 13 6 1, (some (pth 12)), none⟩])))))))
(.seq (.seq (.seqr [⟨(.mv (.tmp (pth 4))), opAt P 13 7 0, (some (pth 21)), none⟩,
⟨(.bin .gtr (.tmp (pth 21)) (.val (.int .i64 (1048576)))), opAt P 13 7 1, (some (pth 22)), none⟩])
(.cond (.tmp (pth 22)) (.seq (.seqr [⟨(.mv (.val (.slice none 0 0))), opAt P 13 8 0, (some (pth 2)), none⟩,
⟨(.mv (.val (.int .i64 (5)))), opAt P 13 8 1, (some (pth 3)), none⟩])
.ret)
.skip))
(.seq (.seqr [⟨(.mv (.tmp (pth 4))), opAt P 13 9 0, (some (pth 23)), none⟩,
⟨(.bin .add (.val (.int .i64 (8))) (.tmp (pth 23))), opAt P 13 9 1, (some (pth 24)), none⟩,
⟨(.bin .add (.tmp (pth 24)) (.val (.int .i64 (4)))), opAt P 13 9 2, (some (pth 25)), none⟩,
⟨.slow, opAt P 13 9 3, (some (pth 26)), none⟩,
⟨(.mv (.tmp (pth 26))), opAt P 13 9 4, (some (pth 7)), none⟩])
(.seq (.seqr [⟨(.mv (.tmp (pth 7))), opAt P 13 10 0, (some (pth 27)), none⟩,
⟨(.mv (.tmp (pth 4))), opAt P 13 10 1, (some (pth 28)), none⟩,
⟨.slow, opAt P 13 10 2, (some (pth 29)), none⟩,
⟨(.call 25 [(.tmp (pth 27)), (.tmp (pth 29))]), opAt P 13 10 3, (some (pth 30)), none⟩,
⟨(.mv (.tmp (pth 30))), opAt P 13 10 4, (some (pth 7)), none⟩])
(.seq (.seqr [⟨(.mv (.tmp (pth 7))), opAt P 13 11 0, (some (pth 31)), none⟩,
⟨(.mv (.tmp (pth 7))), opAt P 13 11 1, (some (pth 32)), none⟩,
⟨.slow, opAt P 13 11 2, (some (pth 33)), none⟩,
⟨(.call 26 [(.tmp (pth 33))]), opAt P 13 11 3, (some (pth 34)), none⟩,
⟨(.call 25 [(.tmp (pth 31)), (.tmp (pth 34))]), opAt P 13 11 4, (some (pth 35)), none⟩,
⟨(.mv (.tmp (pth 35))), opAt P 13 11 5, (some (pth 7)), none⟩])
(.seq (.seq (.seqr [⟨(.mv (.tmp (pth 0))), opAt P 13 12 0, (some (pth 36)), none⟩,
⟨.slow, opAt P 13 12 1, (some (pth 37)), none⟩,
⟨(.mv (.val (.int .i64 (0)))), opAt P 13 12 2, (some (pth 38)), none⟩])
(.block 2 (.loop (.seq (.seqr [⟨(.bin .lss (.tmp (pth 38)) (.tmp (pth 37))), opAt P 13 13 0, (some (pth 39)), none⟩])
(.seq (.cond (.tmp (pth 39)) .skip
(.exit 2))
(.seq (.block 3 (.seq (.seqr [⟨(.ia (.tmp (pth 36)) (.tmp (pth 38)) 1), opAt P 13 14 0, (some (pth 40)), none⟩,
⟨(.ld 22 (.tmp (pth 40))), opAt P 13 14 1, (some (pth 41)), none⟩,
⟨(.mv (.tmp (pth 41))), opAt P 13 14 2, (some (pth 9)), none⟩])
(.seqr [⟨(.mv (.tmp (pth 7))), opAt P 13 15 0, (some (pth 42)), none⟩,
⟨(.mv (.tmp (pth 9))), opAt P 13 15 1, (some (pth 43)), none⟩,
⟨.slow, opAt P 13 15 2, (some (pth 44)), none⟩,
⟨(.mv (.tmp (pth 44))), opAt P 13 15 3, (some (pth 7)), none⟩])))
(.seqr [⟨(.bin .add (.tmp (pth 38)) (.val (.int .i64 (1)))), opAt P 13 16 0, (some (pth 45)), none⟩,
⟨(.mv (.tmp (pth 45))), opAt P 13 16 1, (some (pth 38)), none⟩])))))))
(.seq (.seqr [⟨(.mv (.tmp (pth 7))), opAt P 13 17 0, (some (pth 46)), none⟩,
⟨(.mv (.tmp (pth 7))), opAt P 13 17 1, (some (pth 47)), none⟩,
⟨.slow, opAt P 13 17 2, (some (pth 48)), none⟩,
⟨(.call 26 [(.tmp (pth 48))]), opAt P 13 17 3, (some (pth 49)), none⟩,
⟨(.call 25 [(.tmp (pth 46)), (.tmp (pth 49))]), opAt P 13 17 4, (some (pth 50)), none⟩,
⟨(.mv (.tmp (pth 50))), opAt P 13 17 5, (some (pth 2)), none⟩,
⟨(.mv (.val (.int .i64 (0)))), opAt P 13 17 6, (some (pth 3)), none⟩])
.ret))))))))), [.tmp (pth 2), .tmp (pth 3)]⟩
theorem cf13_ok : cFn Tryd.prog 13 = some (cf13 Tryd.prog) := by kernel_rfl
def cf14 (P : Program) : FF := ⟨13, (.seq (.seqr [⟨(.mv (.val (.slice none 0 0))), opAt P 14 0 0, (some (pth 4)), none⟩])
(.seq (.seqr [⟨.slow, opAt P 14 1 0, (some (pth 5)), none⟩])
(.seq (.seqr [⟨(.mv (.tmp (pth 0))), opAt P 14 2 0, (some (pth 6)), none⟩,
⟨.slow, opAt P 14 2 1, (some (pth 7)), none⟩,
⟨(.call 27 [(.tmp (pth 5)), (.tmp (pth 7))]), opAt P 14 2 2, (some (pth 8)), none⟩])
(.seq (.seqr [⟨(.mv (.tmp (pth 1))), opAt P 14 3 0, (some (pth 9)), none⟩,
⟨.slow, opAt P 14 3 1, (some (pth 10)), none⟩,
⟨(.call 28 [(.tmp (pth 5)), (.tmp (pth 10))]), opAt P 14 3 2, (some (pth 11)), none⟩])
(.seq (.seqr [⟨(.call 29 [(.tmp (pth 5))]), opAt P 14 4 0, (some (pth 12)), none⟩,
⟨(.mv (.tmp (pth 12))), opAt P 14 4 1, (some (pth 4)), none⟩])
.ret))))), [.tmp (pth 4)]⟩
theorem cf14_ok : cFn Tryd.prog 14 = some (cf14 Tryd.prog) := by kernel_rfl
def cf15 (P : Program) : FF := ⟨9, (.seq (.seqr [⟨(.mv (.val (.int .i64 (0)))), opAt P 15 0 0, (some (pth 4)), none⟩])
(.seq (.seqr [⟨(.mv (.tmp (pth 0))), opAt P 15 1 0, (some (pth 5)), none⟩,
⟨(.nc (.tmp (pth 5))), opAt P 15 1 1, (some (pth 6)), none⟩,
⟨(.fa (.tmp (pth 6)) 5), opAt P 15 1 2, (some (pth 7)), none⟩,
⟨(.st 4 (.tmp (pth 7)) (.val (.bool true))), opAt P 15 1 3, none, none⟩])
(.seq (.seqr [⟨(.mv (.tmp (pth 1))), opAt P 15 2 0, (some (pth 8)), none⟩,
⟨(.mv (.tmp (pth 8))), opAt P 15 2 1, (some (pth 4)), none⟩])
.ret))), [.tmp (pth 4)]⟩
theorem cf15_ok : cFn Tryd.prog 15 = some (cf15 Tryd.prog) := by kernel_rfl
def cf16 (P : Program) : FF := ⟨92, (.seq (.seqr [⟨(.mv (.val (.int .i64 (0)))), opAt P 16 0 0, (some (pth 6)), none⟩])
(.seq (.seq (.seqr [⟨(.mv (.tmp (pth 0))), opAt P 16 1 0, (some (pth 14)), none⟩,
⟨(.mv (.tmp (pth 1))), opAt P 16 1 1, (some (pth 15)), none⟩,
⟨.slow, opAt P 16 1 2, (some (pth 16)), none⟩,
⟨(.call 30 [(.tmp (pth 14)), (.tmp (pth 16))]), opAt P 16 1 3, (some (pth 17)), none⟩,
⟨(.mv (.tmp (pth 17))), opAt P 16 1 4, (some (pth 7)), none⟩])
(.seq (.seqr [⟨(.mv (.tmp (pth 7))), opAt P 16 2 0, (some (pth 18)), none⟩,
⟨(.bin .neq (.tmp (pth 18)) (.val (.int .i64 (0)))), opAt P 16 2 1, (some (pth 19)), none⟩])
(.cond (.tmp (pth 19)) (.seq (.seqr [⟨(.mv (.tmp (pth 7))), opAt P 16 3 0, (some (pth 20)), none⟩,
⟨(.mv (.tmp (pth 20))), opAt P 16 3 1, (some (pth 6)), none⟩])
.ret)
.skip)))
(.seq (.seqr [⟨(.mv (.val (.int .i64 (0)))), opAt P 16 4 0, (some (pth 8)), none⟩])
(.seq (.seq (.seqr [⟨(.mv (.tmp (pth 2))), opAt P 16 5 0, (some (pth 21)), none⟩,
⟨.slow, opAt P 16 5 1, (some (pth 22)), none⟩,
⟨(.mv (.val (.int .i64 (0)))), opAt P 16 5 2, (some (pth 23)), none⟩])
(.block 0 (.loop (.seq (.seqr [⟨(.bin .lss (.tmp (pth 23)) (.tmp (pth 22))), opAt P 16 6 0, (some (pth 24)), none⟩])
(.seq (.cond (.tmp (pth 24)) .skip
(.exit 0))
(.seq (.block 1 (.seq (.seqr [⟨(.ia (.tmp (pth 21)) (.tmp (pth 23)) 1), opAt P 16 7 0, (some (pth 25)), none⟩,
⟨(.ld 22 (.tmp (pth 25))), opAt P 16 7 1, (some (pth 26)), none⟩,
⟨(.mv (.tmp (pth 26))), opAt P 16 7 2, (some (pth 10)), none⟩])
(.seqr [⟨(.mv (.tmp (pth 8))), opAt P 16 8 0, (some (pth 27)), none⟩,
⟨(.mv (.tmp (pth 10))), opAt P 16 8 1, (some (pth 28)), none⟩,
⟨.slow, opAt P 16 8 2, (some (pth 29)), none⟩,
⟨(.bin .add (.tmp (pth 27)) (.tmp (pth 29))), opAt P 16 8 3, (some (pth 30)), none⟩,
⟨(.mv (.tmp (pth 30))), opAt P 16 8 4, (some (pth 8)), none⟩])))
(.seqr [⟨(.bin .add (.tmp (pth 23)) (.val (.int .i64 (1)))), opAt P 16 9 0, (some (pth 31)), none⟩,
⟨(.mv (.tmp (pth 31))), opAt P 16 9 1, (some (pth 23)), none⟩])))))))
(.seq (.seqr [⟨(.mv (.tmp (pth 0))), opAt P 16 10 0, (some (pth 32)), none⟩,
⟨(.nc (.tmp (pth 32))), opAt P 16 10 1, (some (pth 33)), none⟩,
⟨(.fa (.tmp (pth 33)) 2), opAt P 16 10 2, (some (pth 34)), none⟩,
⟨(.ld 62 (.tmp (pth 34))), opAt P 16 10 3, (some (pth 35)), none⟩,
⟨(.mv (.tmp (pth 1))), opAt P 16 10 4, (some (pth 36)), none⟩,
⟨.slow, opAt P 16 10 5, (some (pth 37)), none⟩,
⟨(.mv (.tmp (pth 37))), opAt P 16 10 6, (some (pth 11)), none⟩])
(.seq (.seq (.reg [⟨(.mv (.tmp (pth 8))), opAt P 16 11 0, (some (pth 38)), none⟩,
⟨(.mv (.tmp (pth 0))), opAt P 16 11 1, (some (pth 39)), none⟩,
⟨(.nc (.tmp (pth 39))), opAt P 16 11 2, (some (pth 40)), none⟩,
⟨(.fa (.tmp (pth 40)) 0), opAt P 16 11 3, (some (pth 41)), none⟩,
⟨(.ld 3 (.tmp (pth 41))), opAt P 16 11 4, (some (pth 42)), none⟩,
⟨(.mv (.tmp (pth 0))), opAt P 16 11 5, (some (pth 43)), none⟩,
⟨(.nc (.tmp (pth 43))), opAt P 16 11 6, (some (pth 44)), none⟩,
⟨(.fa (.tmp (pth 44)) 1), opAt P 16 11 7, (some (pth 45)), none⟩,
⟨(.ld 3 (.tmp (pth 45))), opAt P 16 11 8, (some (pth 46)), none⟩,
⟨(.bin .sub (.tmp (pth 42)) (.tmp (pth 46))), opAt P 16 11 9, (some (pth 47)), none⟩,
⟨(.bin .gtr (.tmp (pth 38)) (.tmp (pth 47))), opAt P 16 11 10, (some (pth 48)), none⟩,
⟨(.mv (.tmp (pth 48))), opAt P 16 11 11, (some (pth 49)), none⟩,
⟨(.mv (.tmp (pth 11))), opAt P 16 11 12, (some (pth 50)), (some ((pth 49), false))⟩,
⟨(.bin .eql (.tmp (pth 50)) (.val (.pointer none))), opAt P 16 11 13, (some (pth 51)), (some ((pth 49), false))⟩,
⟨(.mv (.tmp (pth 51))), opAt P 16 11 14, (some (pth 52)), (some ((pth 49), false))⟩,
⟨(.mv (.tmp (pth 0))), opAt P 16 11 15, (some (pth 53)), (some ((pth 52), true))⟩,
⟨(.nc (.tmp (pth 53))), opAt P 16 11 16, (some (pth 54)), (some ((pth 52), true))⟩,
⟨(.fa (.tmp (pth 54)) 2), opAt P 16 11 17, (some (pth 55)), (some ((pth 52), true))⟩,
⟨(.ld 62 (.tmp (pth 55))), opAt P 16 11 18, (some (pth 56)), (some ((pth 52), true))⟩,
⟨.slow, opAt P 16 11 19, (some (pth 57)), (some ((pth 52), true))⟩,
⟨(.bin .geq (.tmp (pth 57)) (.val (.int .i64 (4096)))), opAt P 16 11 20, (some (pth 58)), (some ((pth 52), true))⟩,
⟨(.pick (.tmp (pth 52)) (.tmp (pth 58)) (.val (.bool false))), opAt P 16 11 21, (some (pth 59)), (some ((pth 49), false))⟩,
⟨(.pick (.tmp (pth 49)) (.val (.bool true)) (.tmp (pth 59))), opAt P 16 11 22, (some (pth 60)), none⟩] [(4, 8)])
(.cond (.tmp (pth 60)) (.seq (.seqr [⟨(.mv (.val (.int .i64 (6)))), opAt P 16 12 0, (some (pth 6)), none⟩])
.ret)
.skip))
(.seq (.seq (.seqr [⟨(.mv (.tmp (pth 11))), opAt P 16 13 0, (some (pth 61)), none⟩,
⟨(.bin .eql (.tmp (pth 61)) (.val (.pointer none))), opAt P 16 13 1, (some (pth 62)), none⟩])
(.cond (.tmp (pth 62)) (.seqr [⟨(.mv (.tmp (pth 0))), opAt P 16 14 0, (some (pth 63)), none⟩,
⟨(.mv (.tmp (pth 1))), opAt P 16 14 1, (some (pth 64)), none⟩,
⟨(.call 31 [(.tmp (pth 63)), (.tmp (pth 64))]), opAt P 16 14 2, (some (pth 65)), none⟩,
⟨(.mv (.tmp (pth 65))), opAt P 16 14 3, (some (pth 11)), none⟩])
.skip))
(.seq (.seq (.seqr [⟨(.mv (.tmp (pth 2))), opAt P 16 15 0, (some (pth 66)), none⟩,
⟨.slow, opAt P 16 15 1, (some (pth 67)), none⟩,
⟨(.mv (.val (.int .i64 (0)))), opAt P 16 15 2, (some (pth 68)), none⟩])
(.block 2 (.loop (.seq (.seqr [⟨(.bin .lss (.tmp (pth 68)) (.tmp (pth 67))), opAt P 16 16 0, (some (pth 69)), none⟩])
(.seq (.cond (.tmp (pth 69)) .skip
(.exit 2))
(.seq (.block 3 (.seq (.seqr [⟨(.ia (.tmp (pth 66)) (.tmp (pth 68)) 1), opAt P 16 17 0, (some (pth 70)), none⟩,
⟨(.ld 22 (.tmp (pth 70))), opAt P 16 17 1, (some (pth 71)), none⟩,
⟨(.mv (.tmp (pth 71))), opAt P 16 17 2, (some (pth 13)), none⟩])
(.seqr [⟨(.mv (.tmp (pth 11))), opAt P 16 18 0, (some (pth 72)), none⟩,
⟨(.mv (.tmp (pth 11))), opAt P 16 18 1, (some (pth 73)), none⟩,
⟨(.nc (.tmp (pth 73))), opAt P 16 18 2, (some (pth 74)), none⟩,
⟨(.fa (.tmp (pth 74)) 0), opAt P 16 18 3, (some (pth 75)), none⟩,
⟨(.ld 22 (.tmp (pth 75))), opAt P 16 18 4, (some (pth 76)), none⟩,
⟨(.mv (.tmp (pth 13))), opAt P 16 18 5, (some (pth 77)), none⟩,
⟨.slow, opAt P 16 18 6, (some (pth 78)), none⟩,
⟨(.nc (.tmp (pth 72))), opAt P 16 18 7, (some (pth 79)), none⟩,
⟨(.fa (.tmp (pth 79)) 0), opAt P 16 18 8, (some (pth 80)), none⟩,
⟨(.st 22 (.tmp (pth 80)) (.tmp (pth 78))), opAt P 16 18 9, none, none⟩])))
(.seqr [⟨(.bin .add (.tmp (pth 68)) (.val (.int .i64 (1)))), opAt P 16 19 0, (some (pth 81)), none⟩,
⟨(.mv (.tmp (pth 81))), opAt P 16 19 1, (some (pth 68)), none⟩])))))))
(.seq (.seqr [⟨(.mv (.tmp (pth 0))), opAt P 16 20 0, (some (pth 82)), none⟩,
⟨(.nc (.tmp (pth 82))), opAt P 16 20 1, (some (pth 83)), none⟩,
⟨(.fa (.tmp (pth 83)) 1), opAt P 16 20 2, (some (pth 84)), none⟩,
⟨(.ld 3 (.tmp (pth 84))), opAt P 16 20 3, (some (pth 85)), none⟩,
⟨(.mv (.tmp (pth 8))), opAt P 16 20 4, (some (pth 86)), none⟩,
⟨(.bin .add (.tmp (pth 85)) (.tmp (pth 86))), opAt P 16 20 5, (some (pth 87)), none⟩,
⟨(.nc (.tmp (pth 82))), opAt P 16 20 6, (some (pth 88)), none⟩,
⟨(.fa (.tmp (pth 88)) 1), opAt P 16 20 7, (some (pth 89)), none⟩,
⟨(.st 3 (.tmp (pth 89)) (.tmp (pth 87))), opAt P 16 20 8, none, none⟩])
(.seq (.seqr [⟨(.mv (.tmp (pth 0))), opAt P 16 21 0, (some (pth 90)), none⟩,
⟨(.call 32 [(.tmp (pth 90))]), opAt P 16 21 1, (some (pth 91)), none⟩,
⟨(.mv (.tmp (pth 91))), opAt P 16 21 2, (some (pth 6)), none⟩])
.ret)))))))))), [.tmp (pth 6)]⟩
theorem cf16_ok : cFn Tryd.prog 16 = some (cf16 Tryd.prog) := by kernel_rfl
def cf17 (P : Program) : FF := ⟨8, (.seq (.seqr [⟨(.mv (.val (.string ⟨#[]⟩))), opAt P 17 0 0, (some (pth 2)), none⟩])
(.seq (.seqr [⟨(.mv (.tmp (pth 0))), opAt P 17 1 0, (some (pth 3)), none⟩,
⟨(.nc (.tmp (pth 3))), opAt P 17 1 1, (some (pth 4)), none⟩,
⟨(.fa (.tmp (pth 4)) 1), opAt P 17 1 2, (some (pth 5)), none⟩,
⟨(.ld 9 (.tmp (pth 5))), opAt P 17 1 3, (some (pth 6)), none⟩,
⟨(.bin .add (.tmp (pth 6)) (.val (.string ⟨#[45, 108, 111, 103]⟩))), opAt P 17 1 4, (some (pth 7)), none⟩,
⟨(.mv (.tmp (pth 7))), opAt P 17 1 5, (some (pth 2)), none⟩])
.ret)), [.tmp (pth 2)]⟩
theorem cf17_ok : cFn Tryd.prog 17 = some (cf17 Tryd.prog) := by kernel_rfl
def cf18 (P : Program) : FF := ⟨10, (.seq (.seqr [⟨(.mv (.val (.int .i64 (0)))), opAt P 18 0 0, (some (pth 4)), none⟩])
(.seq (.seqr [⟨(.mv (.tmp (pth 0))), opAt P 18 1 0, (some (pth 5)), none⟩,
⟨(.mv (.tmp (pth 1))), opAt P 18 1 1, (some (pth 6)), none⟩,
⟨(.mv (.tmp (pth 0))), opAt P 18 1 2, (some (pth 7)), none⟩,
⟨.slow, opAt P 18 1 3, (some (pth 8)), none⟩,
⟨(.call 33 [(.tmp (pth 5)), (.tmp (pth 6)), (.tmp (pth 8))]), opAt P 18 1 4, (some (pth 9)), none⟩,
⟨(.mv (.tmp (pth 9))), opAt P 18 1 5, (some (pth 4)), none⟩])
.ret)), [.tmp (pth 4)]⟩
theorem cf18_ok : cFn Tryd.prog 18 = some (cf18 Tryd.prog) := by kernel_rfl
def cf19 (P : Program) : FF := ⟨8, (.seq (.seqr [⟨(.mv (.val (.slice none 0 0))), opAt P 19 0 0, (some (pth 2)), none⟩])
(.seq (.seq (.seqr [⟨(.mv (.tmp (pth 0))), opAt P 19 1 0, (some (pth 3)), none⟩,
⟨(.bin .eql (.tmp (pth 3)) (.val (.slice none 0 0))), opAt P 19 1 1, (some (pth 4)), none⟩])
(.cond (.tmp (pth 4)) (.seq (.seqr [⟨(.mv (.val (.slice none 0 0))), opAt P 19 2 0, (some (pth 2)), none⟩])
.ret)
.skip))
(.seq (.seqr [⟨.slow, opAt P 19 3 0, (some (pth 5)), none⟩,
⟨(.mv (.tmp (pth 0))), opAt P 19 3 1, (some (pth 6)), none⟩,
⟨.slow, opAt P 19 3 2, (some (pth 7)), none⟩,
⟨(.mv (.tmp (pth 7))), opAt P 19 3 3, (some (pth 2)), none⟩])
.ret))), [.tmp (pth 2)]⟩
theorem cf19_ok : cFn Tryd.prog 19 = some (cf19 Tryd.prog) := by kernel_rfl
def cf20 (P : Program) : FF := ⟨89, (.seq (.seqr [⟨(.mv (.val (.int .i64 (0)))), opAt P 20 0 0, (some (pth 2)), none⟩])
(.seq (.seq (.seqr [⟨(.mv (.tmp (pth 0))), opAt P 20 1 0, (some (pth 12)), none⟩,
⟨(.call 35 [(.tmp (pth 12))]), opAt P 20 1 1, (some (pth 13)), none⟩,
⟨(.mv (.tmp (pth 13))), opAt P 20 1 2, (some (pth 3)), none⟩])
(.seq (.seqr [⟨(.mv (.tmp (pth 3))), opAt P 20 2 0, (some (pth 14)), none⟩,
⟨(.bin .neq (.tmp (pth 14)) (.val (.int .i64 (0)))), opAt P 20 2 1, (some (pth 15)), none⟩])
(.cond (.tmp (pth 15)) (.seq (.seqr [⟨(.mv (.tmp (pth 3))), opAt P 20 3 0, (some (pth 16)), none⟩,
⟨(.mv (.tmp (pth 16))), opAt P 20 3 1, (some (pth 2)), none⟩])
.ret)
.skip)))
(.seq (.reg [⟨(.mv (.tmp (pth 0))), opAt P 20 4 0, (some (pth 18)), none⟩,
⟨(.nc (.tmp (pth 18))), opAt P 20 4 1, (some (pth 19)), none⟩,
⟨(.fa (.tmp (pth 19)) 0), opAt P 20 4 2, (some (pth 20)), none⟩,
⟨(.ld 41 (.tmp (pth 20))), opAt P 20 4 3, (some (pth 21)), none⟩,
⟨(.mv (.tmp (pth 0))), opAt P 20 4 4, (some (pth 22)), none⟩,
⟨(.call 17 [(.tmp (pth 22))]), opAt P 20 4 5, (some (pth 23)), none⟩,
⟨(.call 36 [(.tmp (pth 21)), (.tmp (pth 23))]), opAt P 20 4 6, (some (pth 24)), none⟩,
⟨(.mv (.tmp (pth 24))), opAt P 20 4 7, (some (pth 17)), none⟩,
⟨(.ext (.tmp (pth 17)) 0), opAt P 20 4 8, (some (pth 25)), none⟩,
⟨(.ext (.tmp (pth 17)) 1), opAt P 20 4 9, (some (pth 26)), none⟩,
⟨(.mv (.tmp (pth 25))), opAt P 20 4 10, (some (pth 4)), none⟩,
⟨(.mv (.tmp (pth 26))), opAt P 20 4 11, (some (pth 5)), none⟩] [(3, 5)])
(.seq (.seqr [⟨(.mv (.tmp (pth 5))), opAt P 20 5 0, (some (pth 27)), none⟩,
⟨(.bin .eql (.tmp (pth 27)) (.val (.int .i64 (0)))), opAt P 20 5 1, (some (pth 28)), none⟩,
⟨(.mv (.tmp (pth 28))), opAt P 20 5 2, (some (pth 6)), none⟩])
(.seq (.seqr [⟨(.mv (.tmp (pth 4))), opAt P 20 6 0, (some (pth 30)), none⟩,
⟨(.call 37 [(.tmp (pth 30))]), opAt P 20 6 1, (some (pth 31)), none⟩,
⟨(.mv (.tmp (pth 31))), opAt P 20 6 2, (some (pth 29)), none⟩,
⟨(.ext (.tmp (pth 29)) 0), opAt P 20 6 3, (some (pth 32)), none⟩,
⟨(.ext (.tmp (pth 29)) 1), opAt P 20 6 4, (some (pth 33)), none⟩,
⟨(.mv (.tmp (pth 32))), opAt P 20 6 5, (some (pth 7)), none⟩,
⟨(.mv (.tmp (pth 33))), opAt P 20 6 6, (some (pth 8)), none⟩])
(.seq (.seq (.seqr [⟨(.mv (.tmp (pth 0))), opAt P 20 7 0, (some (pth 34)), none⟩,
⟨(.mv (.tmp (pth 7))), opAt P 20 7 1, (some (pth 35)), none⟩,
⟨(.call 38 [(.tmp (pth 34)), (.tmp (pth 35))]), opAt P 20 7 2, (some (pth 36)), none⟩,
⟨(.un .not (.tmp (pth 36))), opAt P 20 7 3, (some (pth 37)), none⟩])
(.cond (.tmp (pth 37)) (.seq (.seqr [⟨(.mv (.val (.int .i64 (3)))), opAt P 20 8 0, (some (pth 2)), none⟩])
.ret)
.skip))
(.seq (.seq (.seqr [⟨(.mv (.tmp (pth 0))), opAt P 20 9 0, (some (pth 38)), none⟩,
⟨(.mv (.tmp (pth 0))), opAt P 20 9 1, (some (pth 39)), none⟩,
⟨(.call 22 [(.tmp (pth 39))]), opAt P 20 9 2, (some (pth 40)), none⟩,
⟨(.bin .add (.tmp (pth 40)) (.val (.string ⟨#[126]⟩))), opAt P 20 9 3, (some (pth 41)), none⟩,
⟨(.call 23 [(.tmp (pth 38)), (.tmp (pth 41))]), opAt P 20 9 4, (some (pth 42)), none⟩,
⟨(.mv (.tmp (pth 42))), opAt P 20 9 5, (some (pth 9)), none⟩])
(.seq (.seqr [⟨(.mv (.tmp (pth 9))), opAt P 20 10 0, (some (pth 43)), none⟩,
⟨(.bin .neq (.tmp (pth 43)) (.val (.int .i64 (0)))), opAt P 20 10 1, (some (pth 44)), none⟩])
(.cond (.tmp (pth 44)) (.seq (.seqr [⟨(.mv (.tmp (pth 9))), opAt P 20 11 0, (some (pth 45)), none⟩,
⟨(.mv (.tmp (pth 45))), opAt P 20 11 1, (some (pth 2)), none⟩])
.ret)
.skip)))
(.seq (.seq (.seqr [⟨(.mv (.tmp (pth 8))), opAt P 20 12 0, (some (pth 46)), none⟩,
⟨(.mv (.tmp (pth 4))), opAt P 20 12 1, (some (pth 47)), none⟩,
⟨.slow, opAt P 20 12 2, (some (pth 48)), none⟩,
⟨(.bin .lss (.tmp (pth 46)) (.tmp (pth 48))), opAt P 20 12 3, (some (pth 49)), none⟩])
(.cond (.tmp (pth 49)) (.seq (.seq (.reg [⟨(.mv (.tmp (pth 0))), opAt P 20 13 0, (some (pth 50)), none⟩,
⟨(.nc (.tmp (pth 50))), opAt P 20 13 1, (some (pth 51)), none⟩,
⟨(.fa (.tmp (pth 51)) 0), opAt P 20 13 2, (some (pth 52)), none⟩,
⟨(.ld 41 (.tmp (pth 52))), opAt P 20 13 3, (some (pth 53)), none⟩,
⟨(.mv (.tmp (pth 0))), opAt P 20 13 4, (some (pth 54)), none⟩,
⟨(.call 17 [(.tmp (pth 54))]), opAt P 20 13 5, (some (pth 55)), none⟩,
⟨(.mv (.tmp (pth 8))), opAt P 20 13 6, (some (pth 56)), none⟩,
⟨(.call 39 [(.tmp (pth 53)), (.tmp (pth 55)), (.tmp (pth 56))]), opAt P 20 13 7, (some (pth 57)), none⟩,
⟨(.mv (.tmp (pth 57))), opAt P 20 13 8, (some (pth 10)), none⟩] [(3, 5)])
(.seq (.seqr [⟨(.mv (.tmp (pth 10))), opAt P 20 14 0, (some (pth 58)), none⟩,
⟨(.bin .neq (.tmp (pth 58)) (.val (.int .i64 (0)))), opAt P 20 14 1, (some (pth 59)), none⟩])
(.cond (.tmp (pth 59)) (.seq (.seqr [⟨(.mv (.tmp (pth 10))), opAt P 20 15 0, (some (pth 60)), none⟩,
⟨(.mv (.tmp (pth 60))), opAt P 20 15 1, (some (pth 2)), none⟩])
.ret)
.skip)))
(.seq (.reg [⟨(.mv (.tmp (pth 0))), opAt P 20 16 0, (some (pth 61)), none⟩,
⟨(.nc (.tmp (pth 61))), opAt P 20 16 1, (some (pth 62)), none⟩,
⟨(.fa (.tmp (pth 62)) 0), opAt P 20 16 2, (some (pth 63)), none⟩,
⟨(.ld 41 (.tmp (pth 63))), opAt P 20 16 3, (some (pth 64)), none⟩,
⟨(.mv (.tmp (pth 0))), opAt P 20 16 4, (some (pth 65)), none⟩,
⟨(.call 17 [(.tmp (pth 65))]), opAt P 20 16 5, (some (pth 66)), none⟩,
⟨.slow, opAt P 20 16 6, (some (pth 67)), none⟩,
⟨(.call 18 [(.tmp (pth 64)), (.tmp (pth 67))]), opAt P 20 16 7, (some (pth 68)), none⟩,
⟨(.mv (.tmp (pth 68))), opAt P 20 16 8, (some (pth 11)), none⟩] [(3, 5), (3, 6)])
(.seq (.seqr [⟨(.mv (.tmp (pth 11))), opAt P 20 17 0, (some (pth 69)), none⟩,
⟨(.bin .neq (.tmp (pth 69)) (.val (.int .i64 (0)))), opAt P 20 17 1, (some (pth 70)), none⟩])
(.cond (.tmp (pth 70)) (.seq (.seqr [⟨(.mv (.tmp (pth 11))), opAt P 20 18 0, (some (pth 71)), none⟩,
⟨(.mv (.tmp (pth 71))), opAt P 20 18 1, (some (pth 2)), none⟩])
.ret)
.skip))))
.skip))
(.seq (.seq (.seqr [⟨(.mv (.tmp (pth 6))), opAt P 20 19 0, (some (pth 72)), none⟩,
⟨(.mv (.tmp (pth 72))), opAt P 20 19 1, (some (pth 73)), none⟩,
⟨(.mv (.tmp (pth 0))), opAt P 20 19 2, (some (pth 74)), (some ((pth 73), true))⟩,
⟨(.nc (.tmp (pth 74))), opAt P 20 19 3, (some (pth 75)), (some ((pth 73), true))⟩,
⟨(.fa (.tmp (pth 75)) 4), opAt P 20 19 4, (some (pth 76)), (some ((pth 73), true))⟩,
⟨(.ld 42 (.tmp (pth 76))), opAt P 20 19 5, (some (pth 77)), (some ((pth 73), true))⟩,
⟨.slow, opAt P 20 19 6, (some (pth 78)), (some ((pth 73), true))⟩,
⟨(.bin .eql (.tmp (pth 78)) (.val (.int .i64 (0)))), opAt P 20 19 7, (some (pth 79)), (some ((pth 73), true))⟩,
⟨(.pick (.tmp (pth 73)) (.tmp (pth 79)) (.val (.bool false))), opAt P 20 19 8, (some (pth 80)), none⟩])
(.cond (.tmp (pth 80)) (.seq (.reg [⟨(.mv (.tmp (pth 0))), opAt P 20 20 0, (some (pth 81)), none⟩,
⟨(.nc (.tmp (pth 81))), opAt P 20 20 1, (some (pth 82)), none⟩,
⟨(.fa (.tmp (pth 82)) 0), opAt P 20 20 2, (some (pth 83)), none⟩,
⟨(.ld 41 (.tmp (pth 83))), opAt P 20 20 3, (some (pth 84)), none⟩,
⟨(.mv (.tmp (pth 0))), opAt P 20 20 4, (some (pth 85)), none⟩,
⟨(.call 17 [(.tmp (pth 85))]), opAt P 20 20 5, (some (pth 86)), none⟩,
⟨.slow, opAt P 20 20 6, (some (pth 87)), none⟩,
⟨(.call 40 [(.tmp (pth 84)), (.tmp (pth 87))]), opAt P 20 20 7, (some (pth 88)), none⟩,
⟨(.mv (.tmp (pth 88))), opAt P 20 20 8, (some (pth 2)), none⟩] [(3, 5), (3, 6)])
.ret)
.skip))
(.seq (.seqr [⟨(.mv (.val (.int .i64 (0)))), opAt P 20 21 0, (some (pth 2)), none⟩])
.ret)))))))))), [.tmp (pth 2)]⟩
theorem cf20_ok : cFn Tryd.prog 20 = some (cf20 Tryd.prog) := by kernel_rfl
def cf21 (P : Program) : FF := ⟨65, (.seq (.seqr [⟨(.mv (.val (.int .i64 (0)))), opAt P 21 0 0, (some (pth 6)), none⟩])
(.seq (.seq (.seqr [⟨(.mv (.tmp (pth 0))), opAt P 21 1 0, (some (pth 13)), none⟩,
⟨(.bin .eql (.tmp (pth 13)) (.val (.pointer none))), opAt P 21 1 1, (some (pth 14)), none⟩,
⟨(.mv (.tmp (pth 14))), opAt P 21 1 2, (some (pth 15)), none⟩,
⟨(.mv (.tmp (pth 1))), opAt P 21 1 3, (some (pth 16)), (some ((pth 15), false))⟩,
⟨.slow, opAt P 21 1 4, (some (pth 17)), (some ((pth 15), false))⟩,
⟨(.bin .lss (.tmp (pth 17)) (.val (.int .i64 (1)))), opAt P 21 1 5, (some (pth 18)), (some ((pth 15), false))⟩,
⟨(.pick (.tmp (pth 15)) (.val (.bool true)) (.tmp (pth 18))), opAt P 21 1 6, (some (pth 19)), none⟩,
⟨(.mv (.tmp (pth 19))), opAt P 21 1 7, (some (pth 20)), none⟩,
⟨(.mv (.tmp (pth 1))), opAt P 21 1 8, (some (pth 21)), (some ((pth 20), false))⟩,
⟨.slow, opAt P 21 1 9, (some (pth 22)), (some ((pth 20), false))⟩,
⟨(.bin .gtr (.tmp (pth 22)) (.val (.int .i64 (60)))), opAt P 21 1 10, (some (pth 23)), (some ((pth 20), false))⟩,
⟨(.pick (.tmp (pth 20)) (.val (.bool true)) (.tmp (pth 23))), opAt P 21 1 11, (some (pth 24)), none⟩])
(.cond (.tmp (pth 24)) (.seq (.seqr [⟨(.mv (.val (.int .i64 (1)))), opAt P 21 2 0, (some (pth 6)), none⟩])
.ret)
.skip))
(.seq (.seqr [⟨(.mv (.tmp (pth 2))), opAt P 21 3 0, (some (pth 26)), none⟩,
⟨(.call 13 [(.tmp (pth 26))]), opAt P 21 3 1, (some (pth 27)), none⟩,
⟨(.mv (.tmp (pth 27))), opAt P 21 3 2, (some (pth 25)), none⟩,
⟨(.ext (.tmp (pth 25)) 0), opAt P 21 3 3, (some (pth 28)), none⟩,
⟨(.ext (.tmp (pth 25)) 1), opAt P 21 3 4, (some (pth 29)), none⟩,
⟨(.mv (.tmp (pth 28))), opAt P 21 3 5, (some (pth 7)), none⟩,
⟨(.mv (.tmp (pth 29))), opAt P 21 3 6, (some (pth 8)), none⟩])
(.seq (.seq (.seqr [⟨(.mv (.tmp (pth 8))), opAt P 21 4 0, (some (pth 30)), none⟩,
⟨(.bin .neq (.tmp (pth 30)) (.val (.int .i64 (0)))), opAt P 21 4 1, (some (pth 31)), none⟩])
(.cond (.tmp (pth 31)) (.seq (.seqr [⟨(.mv (.tmp (pth 8))), opAt P 21 5 0, (some (pth 32)), none⟩,
⟨(.mv (.tmp (pth 32))), opAt P 21 5 1, (some (pth 6)), none⟩])
.ret)
.skip))
(.seq (.seqr [⟨(.mv (.tmp (pth 1))), opAt P 21 6 0, (some (pth 33)), none⟩,
⟨(.bin .add (.tmp (pth 33)) (.val (.string ⟨#[126]⟩))), opAt P 21 6 1, (some (pth 34)), none⟩,
⟨(.mv (.tmp (pth 34))), opAt P 21 6 2, (some (pth 9)), none⟩])
(.seq (.seq (.seqr [⟨(.mv (.tmp (pth 0))), opAt P 21 7 0, (some (pth 35)), none⟩,
⟨(.mv (.tmp (pth 9))), opAt P 21 7 1, (some (pth 36)), none⟩,
⟨.slow, opAt P 21 7 2, (some (pth 37)), none⟩,
⟨(.call 40 [(.tmp (pth 35)), (.tmp (pth 37))]), opAt P 21 7 3, (some (pth 38)), none⟩,
⟨(.mv (.tmp (pth 38))), opAt P 21 7 4, (some (pth 10)), none⟩])
(.seq (.seqr [⟨(.mv (.tmp (pth 10))), opAt P 21 8 0, (some (pth 39)), none⟩,
⟨(.bin .neq (.tmp (pth 39)) (.val (.int .i64 (0)))), opAt P 21 8 1, (some (pth 40)), none⟩,
⟨(.mv (.tmp (pth 40))), opAt P 21 8 2, (some (pth 41)), none⟩,
⟨(.mv (.tmp (pth 10))), opAt P 21 8 3, (some (pth 42)), (some ((pth 41), true))⟩,
⟨(.bin .neq (.tmp (pth 42)) (.val (.int .i64 (7)))), opAt P 21 8 4, (some (pth 43)), (some ((pth 41), true))⟩,
⟨(.pick (.tmp (pth 41)) (.tmp (pth 43)) (.val (.bool false))), opAt P 21 8 5, (some (pth 44)), none⟩])
(.cond (.tmp (pth 44)) (.seq (.seqr [⟨(.mv (.tmp (pth 10))), opAt P 21 9 0, (some (pth 45)), none⟩,
⟨(.mv (.tmp (pth 45))), opAt P 21 9 1, (some (pth 6)), none⟩])
.ret)
.skip)))
(.seq (.seq (.seqr [⟨(.mv (.tmp (pth 0))), opAt P 21 10 0, (some (pth 46)), none⟩,
⟨(.mv (.tmp (pth 9))), opAt P 21 10 1, (some (pth 47)), none⟩,
⟨(.mv (.tmp (pth 7))), opAt P 21 10 2, (some (pth 48)), none⟩,
⟨.slow, opAt P 21 10 3, (some (pth 49)), none⟩,
⟨(.call 16 [(.tmp (pth 46)), (.tmp (pth 47)), (.tmp (pth 49))]), opAt P 21 10 4, (some (pth 50)), none⟩,
⟨(.mv (.tmp (pth 50))), opAt P 21 10 5, (some (pth 11)), none⟩])
(.seq (.seqr [⟨(.mv (.tmp (pth 11))), opAt P 21 11 0, (some (pth 51)), none⟩,
⟨(.bin .neq (.tmp (pth 51)) (.val (.int .i64 (0)))), opAt P 21 11 1, (some (pth 52)), none⟩])
(.cond (.tmp (pth 52)) (.seq (.seqr [⟨(.mv (.tmp (pth 11))), opAt P 21 12 0, (some (pth 53)), none⟩,
⟨(.mv (.tmp (pth 53))), opAt P 21 12 1, (some (pth 6)), none⟩])
.ret)
.skip)))
(.seq (.seq (.seqr [⟨(.mv (.tmp (pth 0))), opAt P 21 13 0, (some (pth 54)), none⟩,
⟨(.mv (.tmp (pth 9))), opAt P 21 13 1, (some (pth 55)), none⟩,
⟨.slow, opAt P 21 13 2, (some (pth 56)), none⟩,
⟨(.call 18 [(.tmp (pth 54)), (.tmp (pth 56))]), opAt P 21 13 3, (some (pth 57)), none⟩,
⟨(.mv (.tmp (pth 57))), opAt P 21 13 4, (some (pth 12)), none⟩])
(.seq (.seqr [⟨(.mv (.tmp (pth 12))), opAt P 21 14 0, (some (pth 58)), none⟩,
⟨(.bin .neq (.tmp (pth 58)) (.val (.int .i64 (0)))), opAt P 21 14 1, (some (pth 59)), none⟩])
(.cond (.tmp (pth 59)) (.seq (.seqr [⟨(.mv (.tmp (pth 12))), opAt P 21 15 0, (some (pth 60)), none⟩,
⟨(.mv (.tmp (pth 60))), opAt P 21 15 1, (some (pth 6)), none⟩])
.ret)
.skip)))
(.seq (.seqr [⟨(.mv (.tmp (pth 0))), opAt P 21 16 0, (some (pth 61)), none⟩,
⟨(.mv (.tmp (pth 9))), opAt P 21 16 1, (some (pth 62)), none⟩,
⟨(.mv (.tmp (pth 1))), opAt P 21 16 2, (some (pth 63)), none⟩,
⟨(.call 41 [(.tmp (pth 61)), (.tmp (pth 62)), (.tmp (pth 63))]), opAt P 21 16 3, (some (pth 64)), none⟩,
⟨(.mv (.tmp (pth 64))), opAt P 21 16 4, (some (pth 6)), none⟩])
.ret))))))))), [.tmp (pth 6)]⟩
theorem cf21_ok : cFn Tryd.prog 21 = some (cf21 Tryd.prog) := by kernel_rfl
def cf22 (P : Program) : FF := ⟨8, (.seq (.seqr [⟨(.mv (.val (.string ⟨#[]⟩))), opAt P 22 0 0, (some (pth 2)), none⟩])
(.seq (.seqr [⟨(.mv (.tmp (pth 0))), opAt P 22 1 0, (some (pth 3)), none⟩,
⟨(.nc (.tmp (pth 3))), opAt P 22 1 1, (some (pth 4)), none⟩,
⟨(.fa (.tmp (pth 4)) 1), opAt P 22 1 2, (some (pth 5)), none⟩,
⟨(.ld 9 (.tmp (pth 5))), opAt P 22 1 3, (some (pth 6)), none⟩,
⟨(.bin .add (.tmp (pth 6)) (.val (.string ⟨#[45, 105, 109, 103]⟩))), opAt P 22 1 4, (some (pth 7)), none⟩,
⟨(.mv (.tmp (pth 7))), opAt P 22 1 5, (some (pth 2)), none⟩])
.ret)), [.tmp (pth 2)]⟩
theorem cf22_ok : cFn Tryd.prog 22 = some (cf22 Tryd.prog) := by kernel_rfl
def cf23 (P : Program) : FF := ⟨20, (.seq (.seqr [⟨(.mv (.val (.int .i64 (0)))), opAt P 23 0 0, (some (pth 4)), none⟩])
(.seq (.seq (.seqr [⟨(.mv (.tmp (pth 0))), opAt P 23 1 0, (some (pth 5)), none⟩,
⟨(.nc (.tmp (pth 5))), opAt P 23 1 1, (some (pth 6)), none⟩,
⟨(.fa (.tmp (pth 6)) 0), opAt P 23 1 2, (some (pth 7)), none⟩,
⟨(.ld 41 (.tmp (pth 7))), opAt P 23 1 3, (some (pth 8)), none⟩,
⟨(.call 43 [(.tmp (pth 8))]), opAt P 23 1 4, (some (pth 9)), none⟩,
⟨(.mv (.tmp (pth 1))), opAt P 23 1 5, (some (pth 10)), none⟩,
⟨(.call 42 [(.tmp (pth 9)), (.tmp (pth 10))]), opAt P 23 1 6, (some (pth 11)), none⟩,
⟨(.un .not (.tmp (pth 11))), opAt P 23 1 7, (some (pth 12)), none⟩])
(.cond (.tmp (pth 12)) (.seq (.seqr [⟨(.mv (.val (.int .i64 (0)))), opAt P 23 2 0, (some (pth 4)), none⟩])
.ret)
.skip))
(.seq (.seqr [⟨(.mv (.tmp (pth 0))), opAt P 23 3 0, (some (pth 13)), none⟩,
⟨(.nc (.tmp (pth 13))), opAt P 23 3 1, (some (pth 14)), none⟩,
⟨(.fa (.tmp (pth 14)) 0), opAt P 23 3 2, (some (pth 15)), none⟩,
⟨(.ld 41 (.tmp (pth 15))), opAt P 23 3 3, (some (pth 16)), none⟩,
⟨(.mv (.tmp (pth 1))), opAt P 23 3 4, (some (pth 17)), none⟩,
⟨.slow, opAt P 23 3 5, (some (pth 18)), none⟩,
⟨(.call 40 [(.tmp (pth 16)), (.tmp (pth 18))]), opAt P 23 3 6, (some (pth 19)), none⟩,
⟨(.mv (.tmp (pth 19))), opAt P 23 3 7, (some (pth 4)), none⟩])
.ret))), [.tmp (pth 4)]⟩
theorem cf23_ok : cFn Tryd.prog 23 = some (cf23 Tryd.prog) := by kernel_rfl
def cf24 (P : Program) : FF := ⟨14, (.seq (.seqr [⟨(.mv (.val (.pointer none))), opAt P 24 0 0, (some (pth 2)), none⟩,
⟨(.mv (.val (.int .i64 (0)))), opAt P 24 0 1, (some (pth 3)), none⟩])
(.seq (.seq (.seqr [⟨(.mv (.tmp (pth 0))), opAt P 24 1 0, (some (pth 4)), none⟩,
⟨(.bin .lss (.tmp (pth 4)) (.val (.int .i64 (0)))), opAt P 24 1 1, (some (pth 5)), none⟩,
⟨(.mv (.tmp (pth 5))), opAt P 24 1 2, (some (pth 6)), none⟩,
⟨(.mv (.tmp (pth 0))), opAt P 24 1 3, (some (pth 7)), (some ((pth 6), false))⟩,
⟨(.bin .gtr (.tmp (pth 7)) (.val (.int .i64 (1073741824)))), opAt P 24 1 4, (some (pth 8)), (some ((pth 6), false))⟩,
⟨(.pick (.tmp (pth 6)) (.val (.bool true)) (.tmp (pth 8))), opAt P 24 1 5, (some (pth 9)), none⟩])
(.cond (.tmp (pth 9)) (.seq (.seqr [⟨(.mv (.val (.pointer none))), opAt P 24 2 0, (some (pth 2)), none⟩,
⟨(.mv (.val (.int .i64 (1)))), opAt P 24 2 1, (some (pth 3)), none⟩])
.ret)
.skip))
(.seq (.seqr [⟨(.mv (.tmp (pth 0))), opAt P 24 3 0, (some (pth 10)), none⟩,
⟨.slow, opAt P 24 3 1, (some (pth 11)), none⟩,
⟨.slow, opAt P 24 3 2, (some (pth 12)), none⟩,
⟨.slow, opAt P 24 3 3, (some (pth 13)), none⟩,
⟨(.mv (.tmp (pth 13))), opAt P 24 3 4, (some (pth 2)), none⟩,
⟨(.mv (.val (.int .i64 (0)))), opAt P 24 3 5, (some (pth 3)), none⟩])
.ret))), [.tmp (pth 2), .tmp (pth 3)]⟩
theorem cf24_ok : cFn Tryd.prog 24 = some (cf24 Tryd.prog) := by kernel_rfl
def cf25 (P : Program) : FF := ⟨19, (.seq (.seqr [⟨(.mv (.val (.slice none 0 0))), opAt P 25 0 0, (some (pth 4)), none⟩])
(.seq (.seqr [⟨(.mv (.tmp (pth 0))), opAt P 25 1 0, (some (pth 5)), none⟩,
⟨(.mv (.tmp (pth 1))), opAt P 25 1 1, (some (pth 6)), none⟩,
⟨.slow, opAt P 25 1 2, (some (pth 7)), none⟩,
⟨(.mv (.tmp (pth 1))), opAt P 25 1 3, (some (pth 8)), none⟩,
⟨(.bin .shr (.tmp (pth 8)) (.val (.int .u64 (8)))), opAt P 25 1 4, (some (pth 9)), none⟩,
⟨.slow, opAt P 25 1 5, (some (pth 10)), none⟩,
⟨(.mv (.tmp (pth 1))), opAt P 25 1 6, (some (pth 11)), none⟩,
⟨(.bin .shr (.tmp (pth 11)) (.val (.int .u64 (16)))), opAt P 25 1 7, (some (pth 12)), none⟩,
⟨.slow, opAt P 25 1 8, (some (pth 13)), none⟩,
⟨(.mv (.tmp (pth 1))), opAt P 25 1 9, (some (pth 14)), none⟩,
⟨(.bin .shr (.tmp (pth 14)) (.val (.int .u64 (24)))), opAt P 25 1 10, (some (pth 15)), none⟩,
⟨.slow, opAt P 25 1 11, (some (pth 16)), none⟩,
⟨.slow, opAt P 25 1 12, (some (pth 17)), none⟩,
⟨.slow, opAt P 25 1 13, (some (pth 18)), none⟩,
⟨(.mv (.tmp (pth 18))), opAt P 25 1 14, (some (pth 4)), none⟩])
.ret)), [.tmp (pth 4)]⟩
theorem cf25_ok : cFn Tryd.prog 25 = some (cf25 Tryd.prog) := by kernel_rfl
def cf26 (P : Program) : FF := ⟨41, (.seq (.seqr [⟨(.mv (.val (.int .u32 (0)))), opAt P 26 0 0, (some (pth 2)), none⟩])
(.seq (.seqr [⟨(.mv (.val (.int .u32 (4294967295)))), opAt P 26 1 0, (some (pth 3)), none⟩])
(.seq (.seq (.seqr [⟨(.mv (.tmp (pth 0))), opAt P 26 2 0, (some (pth 9)), none⟩,
⟨.slow, opAt P 26 2 1, (some (pth 10)), none⟩,
⟨(.mv (.val (.int .i64 (0)))), opAt P 26 2 2, (some (pth 11)), none⟩])
(.block 0 (.loop (.seq (.seqr [⟨(.bin .lss (.tmp (pth 11)) (.tmp (pth 10))), opAt P 26 3 0, (some (pth 12)), none⟩])
(.seq (.cond (.tmp (pth 12)) .skip
(.exit 0))
(.seq (.block 1 (.seq (.seqr [⟨(.ia (.tmp (pth 9)) (.tmp (pth 11)) 1), opAt P 26 4 0, (some (pth 13)), none⟩,
⟨(.ld 22 (.tmp (pth 13))), opAt P 26 4 1, (some (pth 14)), none⟩,
⟨(.mv (.tmp (pth 14))), opAt P 26 4 2, (some (pth 5)), none⟩])
(.seq (.seqr [⟨(.mv (.tmp (pth 5))), opAt P 26 5 0, (some (pth 15)), none⟩,
⟨.slow, opAt P 26 5 1, (some (pth 16)), none⟩,
⟨(.mv (.val (.int .i64 (0)))), opAt P 26 5 2, (some (pth 17)), none⟩])
(.block 2 (.loop (.seq (.seqr [⟨(.bin .lss (.tmp (pth 17)) (.tmp (pth 16))), opAt P 26 6 0, (some (pth 18)), none⟩])
(.seq (.cond (.tmp (pth 18)) .skip
(.exit 2))
(.seq (.block 3 (.seq (.seqr [⟨(.ia (.tmp (pth 15)) (.tmp (pth 17)) 1), opAt P 26 7 0, (some (pth 19)), none⟩,
⟨(.ld 5 (.tmp (pth 19))), opAt P 26 7 1, (some (pth 20)), none⟩,
⟨(.mv (.tmp (pth 20))), opAt P 26 7 2, (some (pth 7)), none⟩])
(.seq (.seqr [⟨(.mv (.tmp (pth 3))), opAt P 26 8 0, (some (pth 21)), none⟩,
⟨.slow, opAt P 26 8 1, (some (pth 22)), none⟩,
⟨(.mv (.tmp (pth 7))), opAt P 26 8 2, (some (pth 23)), none⟩,
⟨(.bin .xor (.tmp (pth 22)) (.tmp (pth 23))), opAt P 26 8 3, (some (pth 24)), none⟩,
⟨(.mv (.tmp (pth 24))), opAt P 26 8 4, (some (pth 8)), none⟩])
(.reg [⟨(.mv (.tmp (pth 3))), opAt P 26 9 0, (some (pth 25)), none⟩,
⟨(.bin .shr (.tmp (pth 25)) (.val (.int .u64 (8)))), opAt P 26 9 1, (some (pth 26)), none⟩,
⟨(.mv (.tmp (pth 8))), opAt P 26 9 2, (some (pth 27)), none⟩,
⟨(.bin .and (.tmp (pth 27)) (.val (.int .u8 (15)))), opAt P 26 9 3, (some (pth 28)), none⟩,
⟨.slow, opAt P 26 9 4, (some (pth 29)), none⟩,
⟨(.ld 54 (.tmp (pth 29))), opAt P 26 9 5, (some (pth 30)), none⟩,
⟨(.bin .xor (.tmp (pth 26)) (.tmp (pth 30))), opAt P 26 9 6, (some (pth 31)), none⟩,
⟨(.mv (.tmp (pth 8))), opAt P 26 9 7, (some (pth 32)), none⟩,
⟨(.bin .shr (.tmp (pth 32)) (.val (.int .u64 (4)))), opAt P 26 9 8, (some (pth 33)), none⟩,
⟨.slow, opAt P 26 9 9, (some (pth 34)), none⟩,
⟨(.ld 54 (.tmp (pth 34))), opAt P 26 9 10, (some (pth 35)), none⟩,
⟨(.bin .xor (.tmp (pth 31)) (.tmp (pth 35))), opAt P 26 9 11, (some (pth 36)), none⟩,
⟨(.mv (.tmp (pth 36))), opAt P 26 9 12, (some (pth 3)), none⟩] [(1, 3), (1, 4), (1, 5), (1, 8), (3, 8), (4, 8), (5, 8), (6, 8), (1, 9), (3, 9), (4, 9), (5, 9), (6, 9), (1, 10), (3, 10), (4, 10), (5, 10), (6, 10)]))))
(.seqr [⟨(.bin .add (.tmp (pth 17)) (.val (.int .i64 (1)))), opAt P 26 10 0, (some (pth 37)), none⟩,
⟨(.mv (.tmp (pth 37))), opAt P 26 10 1, (some (pth 17)), none⟩])))))))))
(.seqr [⟨(.bin .add (.tmp (pth 11)) (.val (.int .i64 (1)))), opAt P 26 11 0, (some (pth 38)), none⟩,
⟨(.mv (.tmp (pth 38))), opAt P 26 11 1, (some (pth 11)), none⟩])))))))
(.seq (.seqr [⟨(.mv (.tmp (pth 3))), opAt P 26 12 0, (some (pth 39)), none⟩,
⟨(.un .xor (.tmp (pth 39))), opAt P 26 12 1, (some (pth 40)), none⟩,
⟨(.mv (.tmp (pth 40))), opAt P 26 12 2, (some (pth 2)), none⟩])
.ret)))), [.tmp (pth 2)]⟩
theorem cf26_ok : cFn Tryd.prog 26 = some (cf26 Tryd.prog) := by kernel_rfl
def cf27 (P : Program) : FF := ⟨24, (.seq (.seq (.seqr [⟨(.mv (.tmp (pth 0))), opAt P 27 0 0, (some (pth 6)), none⟩,
⟨(.bin .eql (.tmp (pth 6)) (.val (.pointer none))), opAt P 27 0 1, (some (pth 7)), none⟩])
(.cond (.tmp (pth 7)) .ret
.skip))
(.seq (.seqr [⟨(.mv (.tmp (pth 1))), opAt P 27 1 0, (some (pth 8)), none⟩,
⟨.slow, opAt P 27 1 1, (some (pth 9)), none⟩,
⟨(.mv (.val (.int .i64 (0)))), opAt P 27 1 2, (some (pth 10)), none⟩])
(.block 0 (.loop (.seq (.seqr [⟨(.bin .lss (.tmp (pth 10)) (.tmp (pth 9))), opAt P 27 2 0, (some (pth 11)), none⟩])
(.seq (.cond (.tmp (pth 11)) .skip
(.exit 0))
(.seq (.block 1 (.seq (.seqr [⟨(.ia (.tmp (pth 8)) (.tmp (pth 10)) 1), opAt P 27 3 0, (some (pth 12)), none⟩,
⟨(.ld 3 (.tmp (pth 12))), opAt P 27 3 1, (some (pth 13)), none⟩,
⟨(.mv (.tmp (pth 13))), opAt P 27 3 2, (some (pth 5)), none⟩])
(.seqr [⟨(.mv (.tmp (pth 0))), opAt P 27 4 0, (some (pth 14)), none⟩,
⟨(.mv (.tmp (pth 0))), opAt P 27 4 1, (some (pth 15)), none⟩,
⟨(.nc (.tmp (pth 15))), opAt P 27 4 2, (some (pth 16)), none⟩,
⟨(.fa (.tmp (pth 16)) 0), opAt P 27 4 3, (some (pth 17)), none⟩,
⟨(.ld 22 (.tmp (pth 17))), opAt P 27 4 4, (some (pth 18)), none⟩,
⟨(.mv (.tmp (pth 5))), opAt P 27 4 5, (some (pth 19)), none⟩,
⟨(.call 44 [(.tmp (pth 18)), (.tmp (pth 19))]), opAt P 27 4 6, (some (pth 20)), none⟩,
⟨(.nc (.tmp (pth 14))), opAt P 27 4 7, (some (pth 21)), none⟩,
⟨(.fa (.tmp (pth 21)) 0), opAt P 27 4 8, (some (pth 22)), none⟩,
⟨(.st 22 (.tmp (pth 22)) (.tmp (pth 20))), opAt P 27 4 9, none, none⟩])))
(.seqr [⟨(.bin .add (.tmp (pth 10)) (.val (.int .i64 (1)))), opAt P 27 5 0, (some (pth 23)), none⟩,
⟨(.mv (.tmp (pth 23))), opAt P 27 5 1, (some (pth 10)), none⟩])))))))), []⟩
theorem cf27_ok : cFn Tryd.prog 27 = some (cf27 Tryd.prog) := by kernel_rfl
def cf28 (P : Program) : FF := ⟨27, (.seq (.seq (.seqr [⟨(.mv (.tmp (pth 0))), opAt P 28 0 0, (some (pth 6)), none⟩,
⟨(.bin .eql (.tmp (pth 6)) (.val (.pointer none))), opAt P 28 0 1, (some (pth 7)), none⟩])
(.cond (.tmp (pth 7)) .ret
.skip))
(.seq (.seqr [⟨(.mv (.tmp (pth 1))), opAt P 28 1 0, (some (pth 8)), none⟩,
⟨.slow, opAt P 28 1 1, (some (pth 9)), none⟩,
⟨(.mv (.val (.int .i64 (0)))), opAt P 28 1 2, (some (pth 10)), none⟩])
(.block 0 (.loop (.seq (.seqr [⟨(.bin .lss (.tmp (pth 10)) (.tmp (pth 9))), opAt P 28 2 0, (some (pth 11)), none⟩])
(.seq (.cond (.tmp (pth 11)) .skip
(.exit 0))
(.seq (.block 1 (.seq (.seqr [⟨(.ia (.tmp (pth 8)) (.tmp (pth 10)) 1), opAt P 28 3 0, (some (pth 12)), none⟩,
⟨(.ld 22 (.tmp (pth 12))), opAt P 28 3 1, (some (pth 13)), none⟩,
⟨(.mv (.tmp (pth 13))), opAt P 28 3 2, (some (pth 5)), none⟩])
(.seqr [⟨(.mv (.tmp (pth 0))), opAt P 28 4 0, (some (pth 14)), none⟩,
⟨(.mv (.tmp (pth 0))), opAt P 28 4 1, (some (pth 15)), none⟩,
⟨(.nc (.tmp (pth 15))), opAt P 28 4 2, (some (pth 16)), none⟩,
⟨(.fa (.tmp (pth 16)) 0), opAt P 28 4 3, (some (pth 17)), none⟩,
⟨(.ld 22 (.tmp (pth 17))), opAt P 28 4 4, (some (pth 18)), none⟩,
⟨(.mv (.tmp (pth 5))), opAt P 28 4 5, (some (pth 19)), none⟩,
⟨.slow, opAt P 28 4 6, (some (pth 20)), none⟩,
⟨(.call 44 [(.tmp (pth 18)), (.tmp (pth 20))]), opAt P 28 4 7, (some (pth 21)), none⟩,
⟨(.mv (.tmp (pth 5))), opAt P 28 4 8, (some (pth 22)), none⟩,
⟨.slow, opAt P 28 4 9, (some (pth 23)), none⟩,
⟨(.nc (.tmp (pth 14))), opAt P 28 4 10, (some (pth 24)), none⟩,
⟨(.fa (.tmp (pth 24)) 0), opAt P 28 4 11, (some (pth 25)), none⟩,
⟨(.st 22 (.tmp (pth 25)) (.tmp (pth 23))), opAt P 28 4 12, none, none⟩])))
(.seqr [⟨(.bin .add (.tmp (pth 10)) (.val (.int .i64 (1)))), opAt P 28 5 0, (some (pth 26)), none⟩,
⟨(.mv (.tmp (pth 26))), opAt P 28 5 1, (some (pth 10)), none⟩])))))))), []⟩
theorem cf28_ok : cFn Tryd.prog 28 = some (cf28 Tryd.prog) := by kernel_rfl
def cf29 (P : Program) : FF := ⟨10, (.seq (.seqr [⟨(.mv (.val (.slice none 0 0))), opAt P 29 0 0, (some (pth 2)), none⟩])
(.seq (.seq (.seqr [⟨(.mv (.tmp (pth 0))), opAt P 29 1 0, (some (pth 3)), none⟩,
⟨(.bin .eql (.tmp (pth 3)) (.val (.pointer none))), opAt P 29 1 1, (some (pth 4)), none⟩])
(.cond (.tmp (pth 4)) (.seq (.seqr [⟨(.mv (.val (.slice none 0 0))), opAt P 29 2 0, (some (pth 2)), none⟩])
.ret)
.skip))
(.seq (.seqr [⟨(.mv (.tmp (pth 0))), opAt P 29 3 0, (some (pth 5)), none⟩,
⟨(.nc (.tmp (pth 5))), opAt P 29 3 1, (some (pth 6)), none⟩,
⟨(.fa (.tmp (pth 6)) 0), opAt P 29 3 2, (some (pth 7)), none⟩,
⟨(.ld 22 (.tmp (pth 7))), opAt P 29 3 3, (some (pth 8)), none⟩,
⟨(.call 19 [(.tmp (pth 8))]), opAt P 29 3 4, (some (pth 9)), none⟩,
⟨(.mv (.tmp (pth 9))), opAt P 29 3 5, (some (pth 2)), none⟩])
.ret))), [.tmp (pth 2)]⟩
theorem cf29_ok : cFn Tryd.prog 29 = some (cf29 Tryd.prog) := by kernel_rfl
def cf30 (P : Program) : FF := ⟨35, (.seq (.seqr [⟨(.mv (.val (.int .i64 (0)))), opAt P 30 0 0, (some (pth 4)), none⟩])
(.seq (.seq (.seqr [⟨(.mv (.tmp (pth 0))), opAt P 30 1 0, (some (pth 7)), none⟩,
⟨(.bin .eql (.tmp (pth 7)) (.val (.pointer none))), opAt P 30 1 1, (some (pth 8)), none⟩])
(.cond (.tmp (pth 8)) (.seq (.seqr [⟨(.mv (.val (.int .i64 (1)))), opAt P 30 2 0, (some (pth 4)), none⟩])
.ret)
.skip))
(.seq (.seq (.seqr [⟨(.mv (.tmp (pth 0))), opAt P 30 3 0, (some (pth 9)), none⟩,
⟨(.nc (.tmp (pth 9))), opAt P 30 3 1, (some (pth 10)), none⟩,
⟨(.fa (.tmp (pth 10)) 3), opAt P 30 3 2, (some (pth 11)), none⟩,
⟨(.ld 4 (.tmp (pth 11))), opAt P 30 3 3, (some (pth 12)), none⟩,
⟨(.mv (.tmp (pth 12))), opAt P 30 3 4, (some (pth 13)), none⟩,
⟨(.mv (.tmp (pth 0))), opAt P 30 3 5, (some (pth 14)), (some ((pth 13), true))⟩,
⟨(.nc (.tmp (pth 14))), opAt P 30 3 6, (some (pth 15)), (some ((pth 13), true))⟩,
⟨(.fa (.tmp (pth 15)) 4), opAt P 30 3 7, (some (pth 16)), (some ((pth 13), true))⟩,
⟨(.ld 3 (.tmp (pth 16))), opAt P 30 3 8, (some (pth 17)), (some ((pth 13), true))⟩,
⟨(.bin .eql (.tmp (pth 17)) (.val (.int .i64 (0)))), opAt P 30 3 9, (some (pth 18)), (some ((pth 13), true))⟩,
⟨(.pick (.tmp (pth 13)) (.tmp (pth 18)) (.val (.bool false))), opAt P 30 3 10, (some (pth 19)), none⟩])
(.cond (.tmp (pth 19)) (.seq (.seqr [⟨(.mv (.val (.int .i64 (9)))), opAt P 30 4 0, (some (pth 4)), none⟩])
.ret)
.skip))
(.seq (.seq (.seqr [⟨(.mv (.tmp (pth 1))), opAt P 30 5 0, (some (pth 20)), none⟩,
⟨.slow, opAt P 30 5 1, (some (pth 21)), none⟩,
⟨(.mv (.val (.int .i64 (0)))), opAt P 30 5 2, (some (pth 22)), none⟩])
(.block 0 (.loop (.seq (.seqr [⟨(.bin .lss (.tmp (pth 22)) (.tmp (pth 21))), opAt P 30 6 0, (some (pth 23)), none⟩])
(.seq (.cond (.tmp (pth 23)) .skip
(.exit 0))
(.seq (.block 1 (.seq (.seqr [⟨(.ia (.tmp (pth 20)) (.tmp (pth 22)) 1), opAt P 30 7 0, (some (pth 24)), none⟩,
⟨(.ld 9 (.tmp (pth 24))), opAt P 30 7 1, (some (pth 25)), none⟩,
⟨(.mv (.tmp (pth 25))), opAt P 30 7 2, (some (pth 6)), none⟩])
(.seq (.seqr [⟨(.mv (.tmp (pth 6))), opAt P 30 8 0, (some (pth 26)), none⟩,
⟨.slow, opAt P 30 8 1, (some (pth 27)), none⟩,
⟨(.bin .lss (.tmp (pth 27)) (.val (.int .i64 (1)))), opAt P 30 8 2, (some (pth 28)), none⟩,
⟨(.mv (.tmp (pth 28))), opAt P 30 8 3, (some (pth 29)), none⟩,
⟨(.mv (.tmp (pth 6))), opAt P 30 8 4, (some (pth 30)), (some ((pth 29), false))⟩,
⟨.slow, opAt P 30 8 5, (some (pth 31)), (some ((pth 29), false))⟩,
⟨(.bin .gtr (.tmp (pth 31)) (.val (.int .i64 (64)))), opAt P 30 8 6, (some (pth 32)), (some ((pth 29), false))⟩,
⟨(.pick (.tmp (pth 29)) (.val (.bool true)) (.tmp (pth 32))), opAt P 30 8 7, (some (pth 33)), none⟩])
(.cond (.tmp (pth 33)) (.seq (.seqr [⟨(.mv (.val (.int .i64 (1)))), opAt P 30 9 0, (some (pth 4)), none⟩])
.ret)
.skip))))
(.seqr [⟨(.bin .add (.tmp (pth 22)) (.val (.int .i64 (1)))), opAt P 30 10 0, (some (pth 34)), none⟩,
⟨(.mv (.tmp (pth 34))), opAt P 30 10 1, (some (pth 22)), none⟩])))))))
(.seq (.seqr [⟨(.mv (.val (.int .i64 (0)))), opAt P 30 11 0, (some (pth 4)), none⟩])
.ret))))), [.tmp (pth 4)]⟩
theorem cf30_ok : cFn Tryd.prog 30 = some (cf30 Tryd.prog) := by kernel_rfl
def cf31 (P : Program) : FF := ⟨24, (.seq (.seqr [⟨(.mv (.val (.pointer none))), opAt P 31 0 0, (some (pth 4)), none⟩])
(.seq (.seq (.seqr [⟨(.mv (.tmp (pth 0))), opAt P 31 1 0, (some (pth 6)), none⟩,
⟨(.nc (.tmp (pth 6))), opAt P 31 1 1, (some (pth 7)), none⟩,
⟨(.fa (.tmp (pth 7)) 2), opAt P 31 1 2, (some (pth 8)), none⟩,
⟨(.ld 62 (.tmp (pth 8))), opAt P 31 1 3, (some (pth 9)), none⟩,
⟨(.bin .eql (.tmp (pth 9)) (.val (.map none))), opAt P 31 1 4, (some (pth 10)), none⟩])
(.cond (.tmp (pth 10)) (.seqr [⟨(.mv (.tmp (pth 0))), opAt P 31 2 0, (some (pth 11)), none⟩,
⟨.slow, opAt P 31 2 1, (some (pth 12)), none⟩,
⟨(.nc (.tmp (pth 11))), opAt P 31 2 2, (some (pth 13)), none⟩,
⟨(.fa (.tmp (pth 13)) 2), opAt P 31 2 3, (some (pth 14)), none⟩,
⟨(.st 62 (.tmp (pth 14)) (.tmp (pth 12))), opAt P 31 2 4, none, none⟩])
.skip))
(.seq (.seqr [⟨.slow, opAt P 31 3 0, (some (pth 15)), none⟩,
⟨.slow, opAt P 31 3 1, (some (pth 16)), none⟩,
⟨(.mv (.tmp (pth 16))), opAt P 31 3 2, (some (pth 5)), none⟩])
(.seq (.seqr [⟨(.mv (.tmp (pth 0))), opAt P 31 4 0, (some (pth 17)), none⟩,
⟨(.nc (.tmp (pth 17))), opAt P 31 4 1, (some (pth 18)), none⟩,
⟨(.fa (.tmp (pth 18)) 2), opAt P 31 4 2, (some (pth 19)), none⟩,
⟨(.ld 62 (.tmp (pth 19))), opAt P 31 4 3, (some (pth 20)), none⟩,
⟨(.mv (.tmp (pth 1))), opAt P 31 4 4, (some (pth 21)), none⟩,
⟨(.mv (.tmp (pth 5))), opAt P 31 4 5, (some (pth 22)), none⟩,
⟨.slow, opAt P 31 4 6, none, none⟩])
(.seq (.seqr [⟨(.mv (.tmp (pth 5))), opAt P 31 5 0, (some (pth 23)), none⟩,
⟨(.mv (.tmp (pth 23))), opAt P 31 5 1, (some (pth 4)), none⟩])
.ret))))), [.tmp (pth 4)]⟩
theorem cf31_ok : cFn Tryd.prog 31 = some (cf31 Tryd.prog) := by kernel_rfl
def cf32 (P : Program) : FF := ⟨14, (.seq (.seqr [⟨(.mv (.val (.int .i64 (0)))), opAt P 32 0 0, (some (pth 2)), none⟩])
(.seq (.seq (.seqr [⟨(.mv (.tmp (pth 0))), opAt P 32 1 0, (some (pth 3)), none⟩,
⟨(.nc (.tmp (pth 3))), opAt P 32 1 1, (some (pth 4)), none⟩,
⟨(.fa (.tmp (pth 4)) 3), opAt P 32 1 2, (some (pth 5)), none⟩,
⟨(.ld 4 (.tmp (pth 5))), opAt P 32 1 3, (some (pth 6)), none⟩])
(.cond (.tmp (pth 6)) (.seqr [⟨(.mv (.tmp (pth 0))), opAt P 32 2 0, (some (pth 7)), none⟩,
⟨(.nc (.tmp (pth 7))), opAt P 32 2 1, (some (pth 8)), none⟩,
⟨(.fa (.tmp (pth 8)) 4), opAt P 32 2 2, (some (pth 9)), none⟩,
⟨(.ld 3 (.tmp (pth 9))), opAt P 32 2 3, (some (pth 10)), none⟩,
⟨(.bin .sub (.tmp (pth 10)) (.val (.int .i64 (1)))), opAt P 32 2 4, (some (pth 11)), none⟩,
⟨(.nc (.tmp (pth 7))), opAt P 32 2 5, (some (pth 12)), none⟩,
⟨(.fa (.tmp (pth 12)) 4), opAt P 32 2 6, (some (pth 13)), none⟩,
⟨(.st 3 (.tmp (pth 13)) (.tmp (pth 11))), opAt P 32 2 7, none, none⟩])
.skip))
(.seq (.seqr [⟨(.mv (.val (.int .i64 (0)))), opAt P 32 3 0, (some (pth 2)), none⟩])
.ret))), [.tmp (pth 2)]⟩
theorem cf32_ok : cFn Tryd.prog 32 = some (cf32 Tryd.prog) := by kernel_rfl
def cf33 (P : Program) : FF := ⟨25, (.seq (.seqr [⟨(.mv (.val (.int .i64 (0)))), opAt P 33 0 0, (some (pth 6)), none⟩])
(.seq (.seq (.seqr [⟨(.mv (.tmp (pth 0))), opAt P 33 1 0, (some (pth 10)), none⟩,
⟨(.bin .eql (.tmp (pth 10)) (.val (.pointer none))), opAt P 33 1 1, (some (pth 11)), none⟩])
(.cond (.tmp (pth 11)) (.seq (.seqr [⟨(.mv (.val (.int .i64 (1)))), opAt P 33 2 0, (some (pth 6)), none⟩])
.ret)
.skip))
(.seq (.seq (.seqr [⟨(.mv (.tmp (pth 1))), opAt P 33 3 0, (some (pth 12)), none⟩,
⟨.slow, opAt P 33 3 1, (some (pth 13)), none⟩,
⟨(.mv (.val (.int .i64 (0)))), opAt P 33 3 2, (some (pth 14)), none⟩])
(.block 0 (.loop (.seq (.seqr [⟨(.bin .lss (.tmp (pth 14)) (.tmp (pth 13))), opAt P 33 4 0, (some (pth 15)), none⟩])
(.seq (.cond (.tmp (pth 15)) .skip
(.exit 0))
(.seq (.block 1 (.seq (.seqr [⟨(.ia (.tmp (pth 12)) (.tmp (pth 14)) 1), opAt P 33 5 0, (some (pth 16)), none⟩,
⟨(.ld 9 (.tmp (pth 16))), opAt P 33 5 1, (some (pth 17)), none⟩,
⟨(.mv (.tmp (pth 17))), opAt P 33 5 2, (some (pth 8)), none⟩])
(.seq (.seqr [⟨(.mv (.tmp (pth 2))), opAt P 33 6 0, (some (pth 18)), none⟩,
⟨(.mv (.tmp (pth 8))), opAt P 33 6 1, (some (pth 19)), none⟩,
⟨.slow, opAt P 33 6 2, (some (pth 20)), none⟩,
⟨(.mv (.tmp (pth 20))), opAt P 33 6 3, (some (pth 9)), none⟩])
(.seq (.seqr [⟨(.mv (.tmp (pth 9))), opAt P 33 7 0, (some (pth 21)), none⟩,
⟨(.bin .neq (.tmp (pth 21)) (.val (.int .i64 (0)))), opAt P 33 7 1, (some (pth 22)), none⟩])
(.cond (.tmp (pth 22)) (.seq (.seqr [⟨(.mv (.tmp (pth 9))), opAt P 33 8 0, (some (pth 23)), none⟩,
⟨(.mv (.tmp (pth 23))), opAt P 33 8 1, (some (pth 6)), none⟩])
.ret)
.skip)))))
(.seqr [⟨(.bin .add (.tmp (pth 14)) (.val (.int .i64 (1)))), opAt P 33 9 0, (some (pth 24)), none⟩,
⟨(.mv (.tmp (pth 24))), opAt P 33 9 1, (some (pth 14)), none⟩])))))))
(.seq (.seqr [⟨(.mv (.val (.int .i64 (0)))), opAt P 33 10 0, (some (pth 6)), none⟩])
.ret)))), [.tmp (pth 6)]⟩
theorem cf33_ok : cFn Tryd.prog 33 = some (cf33 Tryd.prog) := by kernel_rfl
def cf34 (P : Program) : FF := ⟨32, (.seq (.seqr [⟨(.mv (.val (.int .i64 (0)))), opAt P 34 0 0, (some (pth 4)), none⟩])
(.seq (.seq (.seqr [⟨(.mv (.tmp (pth 0))), opAt P 34 1 0, (some (pth 7)), none⟩,
⟨(.mv (.tmp (pth 1))), opAt P 34 1 1, (some (pth 8)), none⟩,
⟨.slow, opAt P 34 1 2, (some (pth 9)), none⟩,
⟨(.call 30 [(.tmp (pth 7)), (.tmp (pth 9))]), opAt P 34 1 3, (some (pth 10)), none⟩,
⟨(.mv (.tmp (pth 10))), opAt P 34 1 4, (some (pth 5)), none⟩])
(.seq (.seqr [⟨(.mv (.tmp (pth 5))), opAt P 34 2 0, (some (pth 11)), none⟩,
⟨(.bin .neq (.tmp (pth 11)) (.val (.int .i64 (0)))), opAt P 34 2 1, (some (pth 12)), none⟩])
(.cond (.tmp (pth 12)) (.seq (.seqr [⟨(.mv (.tmp (pth 5))), opAt P 34 3 0, (some (pth 13)), none⟩,
⟨(.mv (.tmp (pth 13))), opAt P 34 3 1, (some (pth 4)), none⟩])
.ret)
.skip)))
(.seq (.seqr [⟨(.mv (.tmp (pth 0))), opAt P 34 4 0, (some (pth 14)), none⟩,
⟨(.nc (.tmp (pth 14))), opAt P 34 4 1, (some (pth 15)), none⟩,
⟨(.fa (.tmp (pth 15)) 2), opAt P 34 4 2, (some (pth 16)), none⟩,
⟨(.ld 62 (.tmp (pth 16))), opAt P 34 4 3, (some (pth 17)), none⟩,
⟨(.mv (.tmp (pth 1))), opAt P 34 4 4, (some (pth 18)), none⟩,
⟨.slow, opAt P 34 4 5, (some (pth 19)), none⟩,
⟨(.mv (.tmp (pth 19))), opAt P 34 4 6, (some (pth 6)), none⟩])
(.seq (.seq (.seqr [⟨(.mv (.tmp (pth 6))), opAt P 34 5 0, (some (pth 20)), none⟩,
⟨(.bin .eql (.tmp (pth 20)) (.val (.pointer none))), opAt P 34 5 1, (some (pth 21)), none⟩])
(.cond (.tmp (pth 21)) (.seq (.seqr [⟨(.mv (.val (.int .i64 (7)))), opAt P 34 6 0, (some (pth 4)), none⟩])
.ret)
.skip))
(.seq (.seqr [⟨(.mv (.tmp (pth 6))), opAt P 34 7 0, (some (pth 22)), none⟩,
⟨(.mv (.tmp (pth 6))), opAt P 34 7 1, (some (pth 23)), none⟩,
⟨(.nc (.tmp (pth 23))), opAt P 34 7 2, (some (pth 24)), none⟩,
⟨(.fa (.tmp (pth 24)) 0), opAt P 34 7 3, (some (pth 25)), none⟩,
⟨(.ld 22 (.tmp (pth 25))), opAt P 34 7 4, (some (pth 26)), none⟩,
⟨.slow, opAt P 34 7 5, (some (pth 27)), none⟩,
⟨(.nc (.tmp (pth 22))), opAt P 34 7 6, (some (pth 28)), none⟩,
⟨(.fa (.tmp (pth 28)) 1), opAt P 34 7 7, (some (pth 29)), none⟩,
⟨(.st 3 (.tmp (pth 29)) (.tmp (pth 27))), opAt P 34 7 8, none, none⟩])
(.seq (.seqr [⟨(.mv (.tmp (pth 0))), opAt P 34 8 0, (some (pth 30)), none⟩,
⟨(.call 32 [(.tmp (pth 30))]), opAt P 34 8 1, (some (pth 31)), none⟩,
⟨(.mv (.tmp (pth 31))), opAt P 34 8 2, (some (pth 4)), none⟩])
.ret)))))), [.tmp (pth 4)]⟩
theorem cf34_ok : cFn Tryd.prog 34 = some (cf34 Tryd.prog) := by kernel_rfl
def cf35 (P : Program) : FF := ⟨43, (.seq (.seqr [⟨(.mv (.val (.int .i64 (0)))), opAt P 35 0 0, (some (pth 2)), none⟩])
(.seq (.reg [⟨(.mv (.tmp (pth 0))), opAt P 35 1 0, (some (pth 7)), none⟩,
⟨(.nc (.tmp (pth 7))), opAt P 35 1 1, (some (pth 8)), none⟩,
⟨(.fa (.tmp (pth 8)) 0), opAt P 35 1 2, (some (pth 9)), none⟩,
⟨(.ld 41 (.tmp (pth 9))), opAt P 35 1 3, (some (pth 10)), none⟩,
⟨(.mv (.tmp (pth 0))), opAt P 35 1 4, (some (pth 11)), none⟩,
⟨(.call 22 [(.tmp (pth 11))]), opAt P 35 1 5, (some (pth 12)), none⟩,
⟨(.call 45 [(.tmp (pth 10)), (.tmp (pth 12))]), opAt P 35 1 6, (some (pth 13)), none⟩,
⟨(.mv (.tmp (pth 13))), opAt P 35 1 7, (some (pth 6)), none⟩,
⟨(.ext (.tmp (pth 6)) 0), opAt P 35 1 8, (some (pth 14)), none⟩,
⟨(.ext (.tmp (pth 6)) 1), opAt P 35 1 9, (some (pth 15)), none⟩,
⟨(.mv (.tmp (pth 14))), opAt P 35 1 10, (some (pth 3)), none⟩,
⟨(.mv (.tmp (pth 15))), opAt P 35 1 11, (some (pth 4)), none⟩] [(3, 5)])
(.seq (.seq (.seqr [⟨(.mv (.tmp (pth 4))), opAt P 35 2 0, (some (pth 16)), none⟩,
⟨(.bin .eql (.tmp (pth 16)) (.val (.int .i64 (7)))), opAt P 35 2 1, (some (pth 17)), none⟩])
(.cond (.tmp (pth 17)) (.seq (.seqr [⟨(.mv (.val (.int .i64 (0)))), opAt P 35 3 0, (some (pth 2)), none⟩])
.ret)
.skip))
(.seq (.seq (.seqr [⟨(.mv (.tmp (pth 4))), opAt P 35 4 0, (some (pth 18)), none⟩,
⟨(.bin .neq (.tmp (pth 18)) (.val (.int .i64 (0)))), opAt P 35 4 1, (some (pth 19)), none⟩])
(.cond (.tmp (pth 19)) (.seq (.seqr [⟨(.mv (.tmp (pth 4))), opAt P 35 5 0, (some (pth 20)), none⟩,
⟨(.mv (.tmp (pth 20))), opAt P 35 5 1, (some (pth 2)), none⟩])
.ret)
.skip))
(.seq (.seqr [⟨(.mv (.tmp (pth 3))), opAt P 35 6 0, (some (pth 21)), none⟩,
⟨(.call 46 [(.tmp (pth 21))]), opAt P 35 6 1, (some (pth 22)), none⟩,
⟨(.mv (.tmp (pth 22))), opAt P 35 6 2, (some (pth 5)), none⟩])
(.seq (.seqr [⟨(.mv (.tmp (pth 0))), opAt P 35 7 0, (some (pth 23)), none⟩,
⟨(.mv (.tmp (pth 0))), opAt P 35 7 1, (some (pth 24)), none⟩,
⟨(.mv (.tmp (pth 5))), opAt P 35 7 2, (some (pth 25)), none⟩,
⟨(.call 47 [(.tmp (pth 25))]), opAt P 35 7 3, (some (pth 26)), none⟩,
⟨(.mv (.tmp (pth 5))), opAt P 35 7 4, (some (pth 27)), none⟩,
⟨(.call 48 [(.tmp (pth 27))]), opAt P 35 7 5, (some (pth 28)), none⟩,
⟨(.nc (.tmp (pth 23))), opAt P 35 7 6, (some (pth 29)), none⟩,
⟨(.fa (.tmp (pth 29)) 2), opAt P 35 7 7, (some (pth 30)), none⟩,
⟨(.st 3 (.tmp (pth 30)) (.tmp (pth 26))), opAt P 35 7 8, none, none⟩,
⟨(.nc (.tmp (pth 24))), opAt P 35 7 9, (some (pth 31)), none⟩,
⟨(.fa (.tmp (pth 31)) 3), opAt P 35 7 10, (some (pth 32)), none⟩,
⟨(.st 22 (.tmp (pth 32)) (.tmp (pth 28))), opAt P 35 7 11, none, none⟩])
(.seq (.seq (.seqr [⟨(.mv (.tmp (pth 5))), opAt P 35 8 0, (some (pth 33)), none⟩,
⟨(.call 49 [(.tmp (pth 33))]), opAt P 35 8 1, (some (pth 34)), none⟩,
⟨(.un .not (.tmp (pth 34))), opAt P 35 8 2, (some (pth 35)), none⟩,
⟨(.mv (.tmp (pth 35))), opAt P 35 8 3, (some (pth 36)), none⟩,
⟨(.mv (.tmp (pth 0))), opAt P 35 8 4, (some (pth 37)), (some ((pth 36), false))⟩,
⟨(.nc (.tmp (pth 37))), opAt P 35 8 5, (some (pth 38)), (some ((pth 36), false))⟩,
⟨(.fa (.tmp (pth 38)) 2), opAt P 35 8 6, (some (pth 39)), (some ((pth 36), false))⟩,
⟨(.ld 3 (.tmp (pth 39))), opAt P 35 8 7, (some (pth 40)), (some ((pth 36), false))⟩,
⟨(.bin .gtr (.tmp (pth 40)) (.val (.int .i64 (1099511627776)))), opAt P 35 8 8, (some (pth 41)), (some ((pth 36), false))⟩,
⟨(.pick (.tmp (pth 36)) (.val (.bool true)) (.tmp (pth 41))), opAt P 35 8 9, (some (pth 42)), none⟩])
(.cond (.tmp (pth 42)) (.seq (.seqr [⟨(.mv (.val (.int .i64 (3)))), opAt P 35 9 0, (some (pth 2)), none⟩])
.ret)
.skip))
(.seq (.seqr [⟨(.mv (.val (.int .i64 (0)))), opAt P 35 10 0, (some (pth 2)), none⟩])
.ret)))))))), [.tmp (pth 2)]⟩
theorem cf35_ok : cFn Tryd.prog 35 = some (cf35 Tryd.prog) := by kernel_rfl
def cf36 (P : Program) : FF := ⟨27, (.seq (.seqr [⟨(.mv (.val (.slice none 0 0))), opAt P 36 0 0, (some (pth 4)), none⟩,
⟨(.mv (.val (.int .i64 (0)))), opAt P 36 0 1, (some (pth 5)), none⟩])
(.seq (.seq (.seqr [⟨(.mv (.tmp (pth 0))), opAt P 36 1 0, (some (pth 6)), none⟩,
⟨(.bin .eql (.tmp (pth 6)) (.val (.pointer none))), opAt P 36 1 1, (some (pth 7)), none⟩,
⟨(.mv (.tmp (pth 7))), opAt P 36 1 2, (some (pth 8)), none⟩,
⟨(.mv (.tmp (pth 0))), opAt P 36 1 3, (some (pth 9)), (some ((pth 8), false))⟩,
⟨(.nc (.tmp (pth 9))), opAt P 36 1 4, (some (pth 10)), (some ((pth 8), false))⟩,
⟨(.fa (.tmp (pth 10)) 2), opAt P 36 1 5, (some (pth 11)), (some ((pth 8), false))⟩,
⟨(.ld 62 (.tmp (pth 11))), opAt P 36 1 6, (some (pth 12)), (some ((pth 8), false))⟩,
⟨(.mv (.tmp (pth 1))), opAt P 36 1 7, (some (pth 13)), (some ((pth 8), false))⟩,
⟨.slow, opAt P 36 1 8, (some (pth 14)), (some ((pth 8), false))⟩,
⟨(.bin .eql (.tmp (pth 14)) (.val (.pointer none))), opAt P 36 1 9, (some (pth 15)), (some ((pth 8), false))⟩,
⟨(.pick (.tmp (pth 8)) (.val (.bool true)) (.tmp (pth 15))), opAt P 36 1 10, (some (pth 16)), none⟩])
(.cond (.tmp (pth 16)) (.seq (.seqr [⟨(.mv (.val (.slice none 0 0))), opAt P 36 2 0, (some (pth 4)), none⟩,
⟨(.mv (.val (.int .i64 (7)))), opAt P 36 2 1, (some (pth 5)), none⟩])
.ret)
.skip))
(.seq (.seqr [⟨(.mv (.tmp (pth 0))), opAt P 36 3 0, (some (pth 17)), none⟩,
⟨(.nc (.tmp (pth 17))), opAt P 36 3 1, (some (pth 18)), none⟩,
⟨(.fa (.tmp (pth 18)) 2), opAt P 36 3 2, (some (pth 19)), none⟩,
⟨(.ld 62 (.tmp (pth 19))), opAt P 36 3 3, (some (pth 20)), none⟩,
⟨(.mv (.tmp (pth 1))), opAt P 36 3 4, (some (pth 21)), none⟩,
⟨.slow, opAt P 36 3 5, (some (pth 22)), none⟩,
⟨(.nc (.tmp (pth 22))), opAt P 36 3 6, (some (pth 23)), none⟩,
⟨(.fa (.tmp (pth 23)) 0), opAt P 36 3 7, (some (pth 24)), none⟩,
⟨(.ld 22 (.tmp (pth 24))), opAt P 36 3 8, (some (pth 25)), none⟩,
⟨(.call 19 [(.tmp (pth 25))]), opAt P 36 3 9, (some (pth 26)), none⟩,
⟨(.mv (.tmp (pth 26))), opAt P 36 3 10, (some (pth 4)), none⟩,
⟨(.mv (.val (.int .i64 (0)))), opAt P 36 3 11, (some (pth 5)), none⟩])
.ret))), [.tmp (pth 4), .tmp (pth 5)]⟩
theorem cf36_ok : cFn Tryd.prog 36 = some (cf36 Tryd.prog) := by kernel_rfl
def cf37 (P : Program) : FF := ⟨28, (.seq (.seqr [⟨(.mv (.val (.slice none 0 0))), opAt P 37 0 0, (some (pth 2)), none⟩,
⟨(.mv (.val (.int .i64 (0)))), opAt P 37 0 1, (some (pth 3)), none⟩])
(.seq (.seqr [⟨(.mv (.val (.slice none 0 0))), opAt P 37 1 0, (some (pth 4)), none⟩])
(.seq (.seqr [⟨(.mv (.val (.int .i64 (0)))), opAt P 37 2 0, (some (pth 5)), none⟩])
(.block 0 (.loop (.block 1 (.seq (.seqr [⟨(.mv (.tmp (pth 0))), opAt P 37 3 0, (some (pth 10)), none⟩,
⟨(.mv (.tmp (pth 5))), opAt P 37 3 1, (some (pth 11)), none⟩,
⟨.slow, opAt P 37 3 2, (some (pth 12)), none⟩,
⟨(.call 50 [(.tmp (pth 12))]), opAt P 37 3 3, (some (pth 13)), none⟩,
⟨(.mv (.tmp (pth 13))), opAt P 37 3 4, (some (pth 9)), none⟩,
⟨(.ext (.tmp (pth 9)) 0), opAt P 37 3 5, (some (pth 14)), none⟩,
⟨(.ext (.tmp (pth 9)) 1), opAt P 37 3 6, (some (pth 15)), none⟩,
⟨(.ext (.tmp (pth 9)) 2), opAt P 37 3 7, (some (pth 16)), none⟩,
⟨(.mv (.tmp (pth 14))), opAt P 37 3 8, (some (pth 6)), none⟩,
⟨(.mv (.tmp (pth 15))), opAt P 37 3 9, (some (pth 7)), none⟩,
⟨(.mv (.tmp (pth 16))), opAt P 37 3 10, (some (pth 8)), none⟩])
(.seq (.seq (.seqr [⟨(.mv (.tmp (pth 8))), opAt P 37 4 0, (some (pth 17)), none⟩,
⟨(.bin .neq (.tmp (pth 17)) (.val (.int .i64 (0)))), opAt P 37 4 1, (some (pth 18)), none⟩])
(.cond (.tmp (pth 18)) (.seq (.seqr [⟨(.mv (.tmp (pth 4))), opAt P 37 5 0, (some (pth 19)), none⟩,
⟨(.mv (.tmp (pth 5))), opAt P 37 5 1, (some (pth 20)), none⟩,
⟨(.mv (.tmp (pth 19))), opAt P 37 5 2, (some (pth 2)), none⟩,
⟨(.mv (.tmp (pth 20))), opAt P 37 5 3, (some (pth 3)), none⟩])
.ret)
.skip))
(.seq (.seqr [⟨(.mv (.tmp (pth 4))), opAt P 37 6 0, (some (pth 21)), none⟩,
⟨(.mv (.tmp (pth 6))), opAt P 37 6 1, (some (pth 22)), none⟩,
⟨.slow, opAt P 37 6 2, (some (pth 23)), none⟩,
⟨.slow, opAt P 37 6 3, (some (pth 24)), none⟩,
⟨(.mv (.tmp (pth 24))), opAt P 37 6 4, (some (pth 4)), none⟩])
(.seqr [⟨(.mv (.tmp (pth 5))), opAt P 37 7 0, (some (pth 25)), none⟩,
⟨(.mv (.tmp (pth 7))), opAt P 37 7 1, (some (pth 26)), none⟩,
⟨(.bin .add (.tmp (pth 25)) (.tmp (pth 26))), opAt P 37 7 2, (some (pth 27)), none⟩,
⟨(.mv (.tmp (pth 27))), opAt P 37 7 3, (some (pth 5)), none⟩])))))))))), [.tmp (pth 2), .tmp (pth 3)]⟩
theorem cf37_ok : cFn Tryd.prog 37 = some (cf37 Tryd.prog) := by kernel_rfl
def cf38 (P : Program) : FF := ⟨20, (.seq (.seqr [⟨(.mv (.val (.bool false))), opAt P 38 0 0, (some (pth 4)), none⟩])
(.seq (.seqr [⟨(.mv (.tmp (pth 0))), opAt P 38 1 0, (some (pth 6)), none⟩,
⟨(.nc (.tmp (pth 6))), opAt P 38 1 1, (some (pth 7)), none⟩,
⟨(.fa (.tmp (pth 7)) 2), opAt P 38 1 2, (some (pth 8)), none⟩,
⟨(.ld 3 (.tmp (pth 8))), opAt P 38 1 3, (some (pth 9)), none⟩,
⟨.slow, opAt P 38 1 4, (some (pth 10)), none⟩,
⟨.slow, opAt P 38 1 5, (some (pth 5)), none⟩,
⟨(.st 89 (.tmp (pth 5)) (.tmp (pth 10))), opAt P 38 1 6, none, none⟩])
(.seq (.seq (.seqr [⟨(.mv (.tmp (pth 1))), opAt P 38 2 0, (some (pth 11)), none⟩,
⟨.slow, opAt P 38 2 1, (some (pth 12)), none⟩,
⟨(.call 51 [(.tmp (pth 11)), (.tmp (pth 12))]), opAt P 38 2 2, (some (pth 13)), none⟩,
⟨(.un .not (.tmp (pth 13))), opAt P 38 2 3, (some (pth 14)), none⟩])
(.cond (.tmp (pth 14)) (.seq (.seqr [⟨(.mv (.val (.bool false))), opAt P 38 3 0, (some (pth 4)), none⟩])
.ret)
.skip))
(.seq (.seqr [⟨(.mv (.tmp (pth 0))), opAt P 38 4 0, (some (pth 15)), none⟩,
⟨(.fa (.tmp (pth 5)) 2), opAt P 38 4 1, (some (pth 16)), none⟩,
⟨(.ld 42 (.tmp (pth 16))), opAt P 38 4 2, (some (pth 17)), none⟩,
⟨(.nc (.tmp (pth 15))), opAt P 38 4 3, (some (pth 18)), none⟩,
⟨(.fa (.tmp (pth 18)) 4), opAt P 38 4 4, (some (pth 19)), none⟩,
⟨(.st 42 (.tmp (pth 19)) (.tmp (pth 17))), opAt P 38 4 5, none, none⟩])
(.seq (.seqr [⟨(.mv (.val (.bool true))), opAt P 38 5 0, (some (pth 4)), none⟩])
.ret))))), [.tmp (pth 4)]⟩
theorem cf38_ok : cFn Tryd.prog 38 = some (cf38 Tryd.prog) := by kernel_rfl
def cf39 (P : Program) : FF := ⟨69, (.seq (.seqr [⟨(.mv (.val (.int .i64 (0)))), opAt P 39 0 0, (some (pth 6)), none⟩])
(.seq (.seq (.seqr [⟨(.mv (.tmp (pth 0))), opAt P 39 1 0, (some (pth 9)), none⟩,
⟨(.mv (.tmp (pth 1))), opAt P 39 1 1, (some (pth 10)), none⟩,
⟨.slow, opAt P 39 1 2, (some (pth 11)), none⟩,
⟨(.call 30 [(.tmp (pth 9)), (.tmp (pth 11))]), opAt P 39 1 3, (some (pth 12)), none⟩,
⟨(.mv (.tmp (pth 12))), opAt P 39 1 4, (some (pth 7)), none⟩])
(.seq (.seqr [⟨(.mv (.tmp (pth 7))), opAt P 39 2 0, (some (pth 13)), none⟩,
⟨(.bin .neq (.tmp (pth 13)) (.val (.int .i64 (0)))), opAt P 39 2 1, (some (pth 14)), none⟩])
(.cond (.tmp (pth 14)) (.seq (.seqr [⟨(.mv (.tmp (pth 7))), opAt P 39 3 0, (some (pth 15)), none⟩,
⟨(.mv (.tmp (pth 15))), opAt P 39 3 1, (some (pth 6)), none⟩])
.ret)
.skip)))
(.seq (.seqr [⟨(.mv (.tmp (pth 0))), opAt P 39 4 0, (some (pth 16)), none⟩,
⟨(.nc (.tmp (pth 16))), opAt P 39 4 1, (some (pth 17)), none⟩,
⟨(.fa (.tmp (pth 17)) 2), opAt P 39 4 2, (some (pth 18)), none⟩,
⟨(.ld 62 (.tmp (pth 18))), opAt P 39 4 3, (some (pth 19)), none⟩,
⟨(.mv (.tmp (pth 1))), opAt P 39 4 4, (some (pth 20)), none⟩,
⟨.slow, opAt P 39 4 5, (some (pth 21)), none⟩,
⟨(.mv (.tmp (pth 21))), opAt P 39 4 6, (some (pth 8)), none⟩])
(.seq (.seq (.seqr [⟨(.mv (.tmp (pth 8))), opAt P 39 5 0, (some (pth 22)), none⟩,
⟨(.bin .eql (.tmp (pth 22)) (.val (.pointer none))), opAt P 39 5 1, (some (pth 23)), none⟩])
(.cond (.tmp (pth 23)) (.seq (.seqr [⟨(.mv (.val (.int .i64 (7)))), opAt P 39 6 0, (some (pth 6)), none⟩])
.ret)
.skip))
(.seq (.seq (.seqr [⟨(.mv (.tmp (pth 2))), opAt P 39 7 0, (some (pth 24)), none⟩,
⟨(.bin .lss (.tmp (pth 24)) (.val (.int .i64 (0)))), opAt P 39 7 1, (some (pth 25)), none⟩,
⟨(.mv (.tmp (pth 25))), opAt P 39 7 2, (some (pth 26)), none⟩,
⟨(.mv (.tmp (pth 2))), opAt P 39 7 3, (some (pth 27)), (some ((pth 26), false))⟩,
⟨(.mv (.tmp (pth 8))), opAt P 39 7 4, (some (pth 28)), (some ((pth 26), false))⟩,
⟨(.nc (.tmp (pth 28))), opAt P 39 7 5, (some (pth 29)), (some ((pth 26), false))⟩,
⟨(.fa (.tmp (pth 29)) 0), opAt P 39 7 6, (some (pth 30)), (some ((pth 26), false))⟩,
⟨(.ld 22 (.tmp (pth 30))), opAt P 39 7 7, (some (pth 31)), (some ((pth 26), false))⟩,
⟨.slow, opAt P 39 7 8, (some (pth 32)), (some ((pth 26), false))⟩,
⟨(.bin .gtr (.tmp (pth 27)) (.tmp (pth 32))), opAt P 39 7 9, (some (pth 33)), (some ((pth 26), false))⟩,
⟨(.pick (.tmp (pth 26)) (.val (.bool true)) (.tmp (pth 33))), opAt P 39 7 10, (some (pth 34)), none⟩])
(.cond (.tmp (pth 34)) (.seq (.seqr [⟨(.mv (.val (.int .i64 (1)))), opAt P 39 8 0, (some (pth 6)), none⟩])
.ret)
.skip))
(.seq (.reg [⟨(.mv (.tmp (pth 0))), opAt P 39 9 0, (some (pth 35)), none⟩,
⟨(.nc (.tmp (pth 35))), opAt P 39 9 1, (some (pth 36)), none⟩,
⟨(.fa (.tmp (pth 36)) 1), opAt P 39 9 2, (some (pth 37)), none⟩,
⟨(.ld 3 (.tmp (pth 37))), opAt P 39 9 3, (some (pth 38)), none⟩,
⟨(.mv (.tmp (pth 8))), opAt P 39 9 4, (some (pth 39)), none⟩,
⟨(.nc (.tmp (pth 39))), opAt P 39 9 5, (some (pth 40)), none⟩,
⟨(.fa (.tmp (pth 40)) 0), opAt P 39 9 6, (some (pth 41)), none⟩,
⟨(.ld 22 (.tmp (pth 41))), opAt P 39 9 7, (some (pth 42)), none⟩,
⟨.slow, opAt P 39 9 8, (some (pth 43)), none⟩,
⟨(.mv (.tmp (pth 2))), opAt P 39 9 9, (some (pth 44)), none⟩,
⟨(.bin .sub (.tmp (pth 43)) (.tmp (pth 44))), opAt P 39 9 10, (some (pth 45)), none⟩,
⟨(.bin .sub (.tmp (pth 38)) (.tmp (pth 45))), opAt P 39 9 11, (some (pth 46)), none⟩,
⟨(.nc (.tmp (pth 35))), opAt P 39 9 12, (some (pth 47)), none⟩,
⟨(.fa (.tmp (pth 47)) 1), opAt P 39 9 13, (some (pth 48)), none⟩,
⟨(.st 3 (.tmp (pth 48)) (.tmp (pth 46))), opAt P 39 9 14, none, none⟩] [(3, 7), (3, 8), (3, 10)])
(.seq (.seqr [⟨(.mv (.tmp (pth 8))), opAt P 39 10 0, (some (pth 49)), none⟩,
⟨(.mv (.tmp (pth 8))), opAt P 39 10 1, (some (pth 50)), none⟩,
⟨(.nc (.tmp (pth 50))), opAt P 39 10 2, (some (pth 51)), none⟩,
⟨(.fa (.tmp (pth 51)) 0), opAt P 39 10 3, (some (pth 52)), none⟩,
⟨(.ld 22 (.tmp (pth 52))), opAt P 39 10 4, (some (pth 53)), none⟩,
⟨(.mv (.tmp (pth 2))), opAt P 39 10 5, (some (pth 54)), none⟩,
⟨.slow, opAt P 39 10 6, (some (pth 55)), none⟩,
⟨(.nc (.tmp (pth 49))), opAt P 39 10 7, (some (pth 56)), none⟩,
⟨(.fa (.tmp (pth 56)) 0), opAt P 39 10 8, (some (pth 57)), none⟩,
⟨(.st 22 (.tmp (pth 57)) (.tmp (pth 55))), opAt P 39 10 9, none, none⟩])
(.seq (.seqr [⟨(.mv (.tmp (pth 8))), opAt P 39 11 0, (some (pth 58)), none⟩,
⟨(.mv (.tmp (pth 8))), opAt P 39 11 1, (some (pth 59)), none⟩,
⟨(.nc (.tmp (pth 59))), opAt P 39 11 2, (some (pth 60)), none⟩,
⟨(.fa (.tmp (pth 60)) 1), opAt P 39 11 3, (some (pth 61)), none⟩,
⟨(.ld 3 (.tmp (pth 61))), opAt P 39 11 4, (some (pth 62)), none⟩,
⟨(.mv (.tmp (pth 2))), opAt P 39 11 5, (some (pth 63)), none⟩,
⟨.slow, opAt P 39 11 6, (some (pth 64)), none⟩,
⟨(.nc (.tmp (pth 58))), opAt P 39 11 7, (some (pth 65)), none⟩,
⟨(.fa (.tmp (pth 65)) 1), opAt P 39 11 8, (some (pth 66)), none⟩,
⟨(.st 3 (.tmp (pth 66)) (.tmp (pth 64))), opAt P 39 11 9, none, none⟩])
(.seq (.seqr [⟨(.mv (.tmp (pth 0))), opAt P 39 12 0, (some (pth 67)), none⟩,
⟨(.call 32 [(.tmp (pth 67))]), opAt P 39 12 1, (some (pth 68)), none⟩,
⟨(.mv (.tmp (pth 68))), opAt P 39 12 2, (some (pth 6)), none⟩])
.ret))))))))), [.tmp (pth 6)]⟩
theorem cf39_ok : cFn Tryd.prog 39 = some (cf39 Tryd.prog) := by kernel_rfl
def cf40 (P : Program) : FF := ⟨10, (.seq (.seqr [⟨(.mv (.val (.int .i64 (0)))), opAt P 40 0 0, (some (pth 4)), none⟩])
(.seq (.seqr [⟨(.mv (.tmp (pth 0))), opAt P 40 1 0, (some (pth 5)), none⟩,
⟨(.mv (.tmp (pth 1))), opAt P 40 1 1, (some (pth 6)), none⟩,
⟨(.mv (.tmp (pth 0))), opAt P 40 1 2, (some (pth 7)), none⟩,
⟨.slow, opAt P 40 1 3, (some (pth 8)), none⟩,
⟨(.call 33 [(.tmp (pth 5)), (.tmp (pth 6)), (.tmp (pth 8))]), opAt P 40 1 4, (some (pth 9)), none⟩,
⟨(.mv (.tmp (pth 9))), opAt P 40 1 5, (some (pth 4)), none⟩])
.ret)), [.tmp (pth 4)]⟩
theorem cf40_ok : cFn Tryd.prog 40 = some (cf40 Tryd.prog) := by kernel_rfl
def cf41 (P : Program) : FF := ⟨44, (.seq (.seqr [⟨(.mv (.val (.int .i64 (0)))), opAt P 41 0 0, (some (pth 6)), none⟩])
(.seq (.seq (.seqr [⟨(.mv (.tmp (pth 0))), opAt P 41 1 0, (some (pth 9)), none⟩,
⟨(.mv (.tmp (pth 1))), opAt P 41 1 1, (some (pth 10)), none⟩,
⟨(.mv (.tmp (pth 2))), opAt P 41 1 2, (some (pth 11)), none⟩,
⟨.slow, opAt P 41 1 3, (some (pth 12)), none⟩,
⟨(.call 30 [(.tmp (pth 9)), (.tmp (pth 12))]), opAt P 41 1 4, (some (pth 13)), none⟩,
⟨(.mv (.tmp (pth 13))), opAt P 41 1 5, (some (pth 7)), none⟩])
(.seq (.seqr [⟨(.mv (.tmp (pth 7))), opAt P 41 2 0, (some (pth 14)), none⟩,
⟨(.bin .neq (.tmp (pth 14)) (.val (.int .i64 (0)))), opAt P 41 2 1, (some (pth 15)), none⟩])
(.cond (.tmp (pth 15)) (.seq (.seqr [⟨(.mv (.tmp (pth 7))), opAt P 41 3 0, (some (pth 16)), none⟩,
⟨(.mv (.tmp (pth 16))), opAt P 41 3 1, (some (pth 6)), none⟩])
.ret)
.skip)))
(.seq (.seqr [⟨(.mv (.tmp (pth 0))), opAt P 41 4 0, (some (pth 17)), none⟩,
⟨(.nc (.tmp (pth 17))), opAt P 41 4 1, (some (pth 18)), none⟩,
⟨(.fa (.tmp (pth 18)) 2), opAt P 41 4 2, (some (pth 19)), none⟩,
⟨(.ld 62 (.tmp (pth 19))), opAt P 41 4 3, (some (pth 20)), none⟩,
⟨(.mv (.tmp (pth 1))), opAt P 41 4 4, (some (pth 21)), none⟩,
⟨.slow, opAt P 41 4 5, (some (pth 22)), none⟩,
⟨(.mv (.tmp (pth 22))), opAt P 41 4 6, (some (pth 8)), none⟩])
(.seq (.seq (.seqr [⟨(.mv (.tmp (pth 8))), opAt P 41 5 0, (some (pth 23)), none⟩,
⟨(.bin .eql (.tmp (pth 23)) (.val (.pointer none))), opAt P 41 5 1, (some (pth 24)), none⟩])
(.cond (.tmp (pth 24)) (.seq (.seqr [⟨(.mv (.val (.int .i64 (7)))), opAt P 41 6 0, (some (pth 6)), none⟩])
.ret)
.skip))
(.seq (.seq (.seqr [⟨(.mv (.tmp (pth 1))), opAt P 41 7 0, (some (pth 25)), none⟩,
⟨(.mv (.tmp (pth 2))), opAt P 41 7 1, (some (pth 26)), none⟩,
⟨(.bin .neq (.tmp (pth 25)) (.tmp (pth 26))), opAt P 41 7 2, (some (pth 27)), none⟩])
(.cond (.tmp (pth 27)) (.seq (.seqr [⟨(.mv (.tmp (pth 0))), opAt P 41 8 0, (some (pth 28)), none⟩,
⟨(.mv (.tmp (pth 2))), opAt P 41 8 1, (some (pth 29)), none⟩,
⟨(.call 54 [(.tmp (pth 28)), (.tmp (pth 29))]), opAt P 41 8 2, (some (pth 30)), none⟩])
(.seq (.seqr [⟨(.mv (.tmp (pth 0))), opAt P 41 9 0, (some (pth 31)), none⟩,
⟨(.nc (.tmp (pth 31))), opAt P 41 9 1, (some (pth 32)), none⟩,
⟨(.fa (.tmp (pth 32)) 2), opAt P 41 9 2, (some (pth 33)), none⟩,
⟨(.ld 62 (.tmp (pth 33))), opAt P 41 9 3, (some (pth 34)), none⟩,
⟨(.mv (.tmp (pth 1))), opAt P 41 9 4, (some (pth 35)), none⟩,
⟨.slow, opAt P 41 9 5, none, none⟩])
(.seqr [⟨(.mv (.tmp (pth 0))), opAt P 41 10 0, (some (pth 36)), none⟩,
⟨(.nc (.tmp (pth 36))), opAt P 41 10 1, (some (pth 37)), none⟩,
⟨(.fa (.tmp (pth 37)) 2), opAt P 41 10 2, (some (pth 38)), none⟩,
⟨(.ld 62 (.tmp (pth 38))), opAt P 41 10 3, (some (pth 39)), none⟩,
⟨(.mv (.tmp (pth 2))), opAt P 41 10 4, (some (pth 40)), none⟩,
⟨(.mv (.tmp (pth 8))), opAt P 41 10 5, (some (pth 41)), none⟩,
⟨.slow, opAt P 41 10 6, none, none⟩])))
.skip))
(.seq (.seqr [⟨(.mv (.tmp (pth 0))), opAt P 41 11 0, (some (pth 42)), none⟩,
⟨(.call 32 [(.tmp (pth 42))]), opAt P 41 11 1, (some (pth 43)), none⟩,
⟨(.mv (.tmp (pth 43))), opAt P 41 11 2, (some (pth 6)), none⟩])
.ret)))))), [.tmp (pth 6)]⟩
theorem cf41_ok : cFn Tryd.prog 41 = some (cf41 Tryd.prog) := by kernel_rfl
def cf42 (P : Program) : FF := ⟨9, (.seq (.seqr [⟨(.mv (.val (.bool false))), opAt P 42 0 0, (some (pth 4)), none⟩])
(.seq (.seqr [⟨(.mv (.tmp (pth 0))), opAt P 42 1 0, (some (pth 5)), none⟩,
⟨(.mv (.tmp (pth 1))), opAt P 42 1 1, (some (pth 6)), none⟩,
⟨(.call 55 [(.tmp (pth 5)), (.tmp (pth 6))]), opAt P 42 1 2, (some (pth 7)), none⟩,
⟨(.bin .geq (.tmp (pth 7)) (.val (.int .i64 (0)))), opAt P 42 1 3, (some (pth 8)), none⟩,
⟨(.mv (.tmp (pth 8))), opAt P 42 1 4, (some (pth 4)), none⟩])
.ret)), [.tmp (pth 4)]⟩
theorem cf42_ok : cFn Tryd.prog 42 = some (cf42 Tryd.prog) := by kernel_rfl
def cf43 (P : Program) : FF := ⟨11, (.seq (.seqr [⟨(.mv (.val (.slice none 0 0))), opAt P 43 0 0, (some (pth 2)), none⟩])
(.seq (.seq (.seqr [⟨(.mv (.tmp (pth 0))), opAt P 43 1 0, (some (pth 3)), none⟩,
⟨(.bin .eql (.tmp (pth 3)) (.val (.pointer none))), opAt P 43 1 1, (some (pth 4)), none⟩])
(.cond (.tmp (pth 4)) (.seq (.seqr [⟨(.mv (.val (.slice none 0 0))), opAt P 43 2 0, (some (pth 2)), none⟩])
.ret)
.skip))
(.seq (.seqr [⟨(.mv (.tmp (pth 0))), opAt P 43 3 0, (some (pth 5)), none⟩,
⟨(.nc (.tmp (pth 5))), opAt P 43 3 1, (some (pth 6)), none⟩,
⟨(.fa (.tmp (pth 6)) 2), opAt P 43 3 2, (some (pth 7)), none⟩,
⟨(.ld 62 (.tmp (pth 7))), opAt P 43 3 3, (some (pth 8)), none⟩,
⟨(.call 57 [(.tmp (pth 8))]), opAt P 43 3 4, (some (pth 9)), none⟩,
⟨(.call 56 [(.tmp (pth 9))]), opAt P 43 3 5, (some (pth 10)), none⟩,
⟨(.mv (.tmp (pth 10))), opAt P 43 3 6, (some (pth 2)), none⟩])
.ret))), [.tmp (pth 2)]⟩
theorem cf43_ok : cFn Tryd.prog 43 = some (cf43 Tryd.prog) := by kernel_rfl
def cf44 (P : Program) : FF := ⟨23, (.seq (.seqr [⟨(.mv (.val (.slice none 0 0))), opAt P 44 0 0, (some (pth 4)), none⟩])
(.seq (.seqr [⟨(.mv (.tmp (pth 1))), opAt P 44 1 0, (some (pth 5)), none⟩,
⟨.slow, opAt P 44 1 1, (some (pth 6)), none⟩,
⟨.slow, opAt P 44 1 2, (some (pth 7)), none⟩,
⟨(.mv (.tmp (pth 7))), opAt P 44 1 3, (some (pth 1)), none⟩])
(.seq (.block 0 (.loop (.seq (.seq (.seqr [⟨(.mv (.tmp (pth 1))), opAt P 44 2 0, (some (pth 8)), none⟩,
⟨(.bin .geq (.tmp (pth 8)) (.val (.int .i64 (128)))), opAt P 44 2 1, (some (pth 9)), none⟩])
(.cond (.tmp (pth 9)) .skip
(.exit 0)))
(.block 1 (.seq (.seqr [⟨(.mv (.tmp (pth 0))), opAt P 44 3 0, (some (pth 10)), none⟩,
⟨(.mv (.tmp (pth 1))), opAt P 44 3 1, (some (pth 11)), none⟩,
⟨.slow, opAt P 44 3 2, (some (pth 12)), none⟩,
⟨(.bin .or (.tmp (pth 12)) (.val (.int .u8 (128)))), opAt P 44 3 3, (some (pth 13)), none⟩,
⟨.slow, opAt P 44 3 4, (some (pth 14)), none⟩,
⟨.slow, opAt P 44 3 5, (some (pth 15)), none⟩,
⟨(.mv (.tmp (pth 15))), opAt P 44 3 6, (some (pth 0)), none⟩])
(.seqr [⟨(.mv (.tmp (pth 1))), opAt P 44 4 0, (some (pth 16)), none⟩,
⟨(.bin .shr (.tmp (pth 16)) (.val (.int .u64 (7)))), opAt P 44 4 1, (some (pth 17)), none⟩,
⟨(.mv (.tmp (pth 17))), opAt P 44 4 2, (some (pth 1)), none⟩]))))))
(.seq (.seqr [⟨(.mv (.tmp (pth 0))), opAt P 44 5 0, (some (pth 18)), none⟩,
⟨(.mv (.tmp (pth 1))), opAt P 44 5 1, (some (pth 19)), none⟩,
⟨.slow, opAt P 44 5 2, (some (pth 20)), none⟩,
⟨.slow, opAt P 44 5 3, (some (pth 21)), none⟩,
⟨.slow, opAt P 44 5 4, (some (pth 22)), none⟩,
⟨(.mv (.tmp (pth 22))), opAt P 44 5 5, (some (pth 4)), none⟩])
.ret)))), [.tmp (pth 4)]⟩
theorem cf44_ok : cFn Tryd.prog 44 = some (cf44 Tryd.prog) := by kernel_rfl
def cf45 (P : Program) : FF := ⟨28, (.seq (.seqr [⟨(.mv (.val (.slice none 0 0))), opAt P 45 0 0, (some (pth 4)), none⟩,
⟨(.mv (.val (.int .i64 (0)))), opAt P 45 0 1, (some (pth 5)), none⟩])
(.seq (.seq (.seqr [⟨(.mv (.tmp (pth 0))), opAt P 45 1 0, (some (pth 9)), none⟩,
⟨(.bin .eql (.tmp (pth 9)) (.val (.pointer none))), opAt P 45 1 1, (some (pth 10)), none⟩])
(.cond (.tmp (pth 10)) (.seq (.seqr [⟨(.mv (.val (.slice none 0 0))), opAt P 45 2 0, (some (pth 4)), none⟩,
⟨(.mv (.val (.int .i64 (1)))), opAt P 45 2 1, (some (pth 5)), none⟩])
.ret)
.skip))
(.seq (.seqr [⟨(.mv (.tmp (pth 0))), opAt P 45 3 0, (some (pth 12)), none⟩,
⟨(.mv (.tmp (pth 1))), opAt P 45 3 1, (some (pth 13)), none⟩,
⟨(.call 36 [(.tmp (pth 12)), (.tmp (pth 13))]), opAt P 45 3 2, (some (pth 14)), none⟩,
⟨(.mv (.tmp (pth 14))), opAt P 45 3 3, (some (pth 11)), none⟩,
⟨(.ext (.tmp (pth 11)) 0), opAt P 45 3 4, (some (pth 15)), none⟩,
⟨(.ext (.tmp (pth 11)) 1), opAt P 45 3 5, (some (pth 16)), none⟩,
⟨(.mv (.tmp (pth 15))), opAt P 45 3 6, (some (pth 6)), none⟩,
⟨(.mv (.tmp (pth 16))), opAt P 45 3 7, (some (pth 7)), none⟩])
(.seq (.seq (.seqr [⟨(.mv (.tmp (pth 7))), opAt P 45 4 0, (some (pth 17)), none⟩,
⟨(.bin .neq (.tmp (pth 17)) (.val (.int .i64 (0)))), opAt P 45 4 1, (some (pth 18)), none⟩])
(.cond (.tmp (pth 18)) (.seq (.seqr [⟨(.mv (.tmp (pth 7))), opAt P 45 5 0, (some (pth 19)), none⟩,
⟨(.mv (.val (.slice none 0 0))), opAt P 45 5 1, (some (pth 4)), none⟩,
⟨(.mv (.tmp (pth 19))), opAt P 45 5 2, (some (pth 5)), none⟩])
.ret)
.skip))
(.seq (.seqr [⟨(.mv (.tmp (pth 6))), opAt P 45 6 0, (some (pth 21)), none⟩,
⟨(.call 58 [(.tmp (pth 21))]), opAt P 45 6 1, (some (pth 22)), none⟩,
⟨(.mv (.tmp (pth 22))), opAt P 45 6 2, (some (pth 20)), none⟩,
⟨(.ext (.tmp (pth 20)) 0), opAt P 45 6 3, (some (pth 23)), none⟩,
⟨(.ext (.tmp (pth 20)) 1), opAt P 45 6 4, (some (pth 24)), none⟩,
⟨(.mv (.tmp (pth 23))), opAt P 45 6 5, (some (pth 8)), none⟩,
⟨(.mv (.tmp (pth 24))), opAt P 45 6 6, (some (pth 7)), none⟩])
(.seq (.seq (.seqr [⟨(.mv (.tmp (pth 7))), opAt P 45 7 0, (some (pth 25)), none⟩,
⟨(.bin .neq (.tmp (pth 25)) (.val (.int .i64 (0)))), opAt P 45 7 1, (some (pth 26)), none⟩])
(.cond (.tmp (pth 26)) (.seq (.seqr [⟨(.mv (.val (.slice none 0 0))), opAt P 45 8 0, (some (pth 4)), none⟩,
⟨(.mv (.val (.int .i64 (3)))), opAt P 45 8 1, (some (pth 5)), none⟩])
.ret)
.skip))
(.seq (.seqr [⟨(.mv (.tmp (pth 8))), opAt P 45 9 0, (some (pth 27)), none⟩,
⟨(.mv (.tmp (pth 27))), opAt P 45 9 1, (some (pth 4)), none⟩,
⟨(.mv (.val (.int .i64 (0)))), opAt P 45 9 2, (some (pth 5)), none⟩])
.ret))))))), [.tmp (pth 4), .tmp (pth 5)]⟩
theorem cf45_ok : cFn Tryd.prog 45 = some (cf45 Tryd.prog) := by kernel_rfl
def cf46 (P : Program) : FF := ⟨7, (.seq (.seqr [⟨(.mv (.val (.pointer none))), opAt P 46 0 0, (some (pth 2)), none⟩])
(.seq (.seqr [⟨(.mv (.tmp (pth 0))), opAt P 46 1 0, (some (pth 3)), none⟩,
⟨(.call 19 [(.tmp (pth 3))]), opAt P 46 1 1, (some (pth 4)), none⟩,
⟨.slow, opAt P 46 1 2, (some (pth 5)), none⟩,
⟨.slow, opAt P 46 1 3, (some (pth 6)), none⟩,
⟨(.mv (.tmp (pth 6))), opAt P 46 1 4, (some (pth 2)), none⟩])
.ret)), [.tmp (pth 2)]⟩
theorem cf46_ok : cFn Tryd.prog 46 = some (cf46 Tryd.prog) := by kernel_rfl
def cf47 (P : Program) : FF := ⟨60, (.seq (.seqr [⟨(.mv (.val (.int .i64 (0)))), opAt P 47 0 0, (some (pth 2)), none⟩])
(.seq (.seq (.seqr [⟨(.mv (.tmp (pth 0))), opAt P 47 1 0, (some (pth 6)), none⟩,
⟨(.bin .eql (.tmp (pth 6)) (.val (.pointer none))), opAt P 47 1 1, (some (pth 7)), none⟩])
(.cond (.tmp (pth 7)) (.seq (.seqr [⟨(.mv (.val (.int .i64 (0)))), opAt P 47 2 0, (some (pth 2)), none⟩])
.ret)
.skip))
(.seq (.seqr [⟨(.mv (.val (.int .i64 (0)))), opAt P 47 3 0, (some (pth 3)), none⟩])
(.seq (.seq (.reg [⟨(.mv (.tmp (pth 0))), opAt P 47 4 0, (some (pth 8)), none⟩,
⟨(.nc (.tmp (pth 8))), opAt P 47 4 1, (some (pth 9)), none⟩,
⟨(.fa (.tmp (pth 9)) 0), opAt P 47 4 2, (some (pth 10)), none⟩,
⟨(.ld 22 (.tmp (pth 10))), opAt P 47 4 3, (some (pth 11)), none⟩,
⟨(.mv (.tmp (pth 0))), opAt P 47 4 4, (some (pth 12)), none⟩,
⟨(.nc (.tmp (pth 12))), opAt P 47 4 5, (some (pth 13)), none⟩,
⟨(.fa (.tmp (pth 13)) 0), opAt P 47 4 6, (some (pth 14)), none⟩,
⟨(.ld 22 (.tmp (pth 14))), opAt P 47 4 7, (some (pth 15)), none⟩,
⟨.slow, opAt P 47 4 8, (some (pth 16)), none⟩,
⟨.slow, opAt P 47 4 9, (some (pth 17)), none⟩,
⟨.slow, opAt P 47 4 10, (some (pth 18)), none⟩,
⟨.slow, opAt P 47 4 11, (some (pth 19)), none⟩,
⟨(.mv (.val (.int .i64 (0)))), opAt P 47 4 12, (some (pth 20)), none⟩] [(3, 7), (3, 8), (3, 9)])
(.block 0 (.loop (.seq (.seqr [⟨(.bin .lss (.tmp (pth 20)) (.tmp (pth 19))), opAt P 47 5 0, (some (pth 21)), none⟩])
(.seq (.cond (.tmp (pth 21)) .skip
(.exit 0))
(.seq (.block 1 (.seq (.seqr [⟨(.mv (.tmp (pth 20))), opAt P 47 6 0, (some (pth 22)), none⟩,
⟨(.ia (.tmp (pth 18)) (.tmp (pth 20)) 1), opAt P 47 6 1, (some (pth 23)), none⟩,
⟨(.ld 5 (.tmp (pth 23))), opAt P 47 6 2, (some (pth 24)), none⟩,
⟨(.mv (.tmp (pth 22))), opAt P 47 6 3, (some (pth 4)), none⟩,
⟨(.mv (.tmp (pth 24))), opAt P 47 6 4, (some (pth 5)), none⟩])
(.seq (.seqr [⟨(.mv (.tmp (pth 3))), opAt P 47 7 0, (some (pth 25)), none⟩,
⟨(.mv (.tmp (pth 5))), opAt P 47 7 1, (some (pth 26)), none⟩,
⟨(.bin .andNot (.tmp (pth 26)) (.val (.int .u8 (128)))), opAt P 47 7 2, (some (pth 27)), none⟩,
⟨.slow, opAt P 47 7 3, (some (pth 28)), none⟩,
⟨(.mv (.tmp (pth 4))), opAt P 47 7 4, (some (pth 29)), none⟩,
⟨(.bin .mul (.val (.int .i64 (7))) (.tmp (pth 29))), opAt P 47 7 5, (some (pth 30)), none⟩,
⟨(.bin .shl (.tmp (pth 28)) (.tmp (pth 30))), opAt P 47 7 6, (some (pth 31)), none⟩,
⟨(.bin .or (.tmp (pth 25)) (.tmp (pth 31))), opAt P 47 7 7, (some (pth 32)), none⟩,
⟨(.mv (.tmp (pth 32))), opAt P 47 7 8, (some (pth 3)), none⟩])
(.seq (.seq (.seqr [⟨(.mv (.tmp (pth 5))), opAt P 47 8 0, (some (pth 33)), none⟩,
⟨(.bin .and (.tmp (pth 33)) (.val (.int .u8 (128)))), opAt P 47 8 1, (some (pth 34)), none⟩,
⟨(.bin .neq (.tmp (pth 34)) (.val (.int .u8 (0)))), opAt P 47 8 2, (some (pth 35)), none⟩])
(.cond (.tmp (pth 35)) (.exit 1)
.skip))
(.seq (.seq (.seqr [⟨(.mv (.tmp (pth 4))), opAt P 47 9 0, (some (pth 36)), none⟩,
⟨(.bin .gtr (.tmp (pth 36)) (.val (.int .i64 (0)))), opAt P 47 9 1, (some (pth 37)), none⟩,
⟨(.mv (.tmp (pth 37))), opAt P 47 9 2, (some (pth 38)), none⟩,
⟨(.mv (.tmp (pth 5))), opAt P 47 9 3, (some (pth 39)), (some ((pth 38), true))⟩,
⟨(.bin .eql (.tmp (pth 39)) (.val (.int .u8 (0)))), opAt P 47 9 4, (some (pth 40)), (some ((pth 38), true))⟩,
⟨(.pick (.tmp (pth 38)) (.tmp (pth 40)) (.val (.bool false))), opAt P 47 9 5, (some (pth 41)), none⟩,
⟨(.mv (.tmp (pth 41))), opAt P 47 9 6, (some (pth 42)), none⟩,
⟨(.mv (.tmp (pth 3))), opAt P 47 9 7, (some (pth 43)), (some ((pth 42), false))⟩,
⟨(.bin .gtr (.tmp (pth 43)) (.val (.int .i64 (4611686018427387904)))), opAt P 47 9 8, (some (pth 44)), (some ((pth 42), false))⟩,
⟨(.pick (.tmp (pth 42)) (.val (.bool true)) (.tmp (pth 44))), opAt P 47 9 9, (some (pth 45)), none⟩])
(.cond (.tmp (pth 45)) (.exit 0)
.skip))
(.seq (.seqr [⟨(.mv (.tmp (pth 0))), opAt P 47 10 0, (some (pth 46)), none⟩,
⟨(.mv (.tmp (pth 0))), opAt P 47 10 1, (some (pth 47)), none⟩,
⟨(.nc (.tmp (pth 47))), opAt P 47 10 2, (some (pth 48)), none⟩,
⟨(.fa (.tmp (pth 48)) 0), opAt P 47 10 3, (some (pth 49)), none⟩,
⟨(.ld 22 (.tmp (pth 49))), opAt P 47 10 4, (some (pth 50)), none⟩,
⟨(.mv (.tmp (pth 4))), opAt P 47 10 5, (some (pth 51)), none⟩,
⟨(.bin .add (.tmp (pth 51)) (.val (.int .i64 (1)))), opAt P 47 10 6, (some (pth 52)), none⟩,
⟨.slow, opAt P 47 10 7, (some (pth 53)), none⟩,
⟨(.nc (.tmp (pth 46))), opAt P 47 10 8, (some (pth 54)), none⟩,
⟨(.fa (.tmp (pth 54)) 0), opAt P 47 10 9, (some (pth 55)), none⟩,
⟨(.st 22 (.tmp (pth 55)) (.tmp (pth 53))), opAt P 47 10 10, none, none⟩])
(.seq (.seqr [⟨(.mv (.tmp (pth 3))), opAt P 47 11 0, (some (pth 56)), none⟩,
⟨(.mv (.tmp (pth 56))), opAt P 47 11 1, (some (pth 2)), none⟩])
.ret)))))))
(.seqr [⟨(.bin .add (.tmp (pth 20)) (.val (.int .i64 (1)))), opAt P 47 12 0, (some (pth 57)), none⟩,
⟨(.mv (.tmp (pth 57))), opAt P 47 12 1, (some (pth 20)), none⟩])))))))
(.seq (.seqr [⟨(.mv (.tmp (pth 0))), opAt P 47 13 0, (some (pth 58)), none⟩,
⟨(.call 59 [(.tmp (pth 58))]), opAt P 47 13 1, (some (pth 59)), none⟩])
(.seq (.seqr [⟨(.mv (.val (.int .i64 (0)))), opAt P 47 14 0, (some (pth 2)), none⟩])
.ret)))))), [.tmp (pth 2)]⟩
theorem cf47_ok : cFn Tryd.prog 47 = some (cf47 Tryd.prog) := by kernel_rfl
def cf48 (P : Program) : FF := ⟨7, (.seq (.seqr [⟨(.mv (.val (.slice none 0 0))), opAt P 48 0 0, (some (pth 2)), none⟩])
(.seq (.seqr [⟨(.mv (.tmp (pth 0))), opAt P 48 1 0, (some (pth 3)), none⟩,
⟨(.mv (.tmp (pth 0))), opAt P 48 1 1, (some (pth 4)), none⟩,
⟨(.call 47 [(.tmp (pth 4))]), opAt P 48 1 2, (some (pth 5)), none⟩,
⟨(.call 60 [(.tmp (pth 3)), (.tmp (pth 5))]), opAt P 48 1 3, (some (pth 6)), none⟩,
⟨(.mv (.tmp (pth 6))), opAt P 48 1 4, (some (pth 2)), none⟩])
.ret)), [.tmp (pth 2)]⟩
theorem cf48_ok : cFn Tryd.prog 48 = some (cf48 Tryd.prog) := by kernel_rfl
def cf49 (P : Program) : FF := ⟨13, (.seq (.seqr [⟨(.mv (.val (.bool false))), opAt P 49 0 0, (some (pth 2)), none⟩])
(.seq (.seqr [⟨(.mv (.tmp (pth 0))), opAt P 49 1 0, (some (pth 3)), none⟩,
⟨(.call 61 [(.tmp (pth 3))]), opAt P 49 1 1, (some (pth 4)), none⟩,
⟨(.mv (.tmp (pth 4))), opAt P 49 1 2, (some (pth 5)), none⟩,
⟨(.mv (.tmp (pth 0))), opAt P 49 1 3, (some (pth 6)), (some ((pth 5), true))⟩,
⟨(.nc (.tmp (pth 6))), opAt P 49 1 4, (some (pth 7)), (some ((pth 5), true))⟩,
⟨(.fa (.tmp (pth 7)) 0), opAt P 49 1 5, (some (pth 8)), (some ((pth 5), true))⟩,
⟨(.ld 22 (.tmp (pth 8))), opAt P 49 1 6, (some (pth 9)), (some ((pth 5), true))⟩,
⟨.slow, opAt P 49 1 7, (some (pth 10)), (some ((pth 5), true))⟩,
⟨(.bin .eql (.tmp (pth 10)) (.val (.int .i64 (0)))), opAt P 49 1 8, (some (pth 11)), (some ((pth 5), true))⟩,
⟨(.pick (.tmp (pth 5)) (.tmp (pth 11)) (.val (.bool false))), opAt P 49 1 9, (some (pth 12)), none⟩,
⟨(.mv (.tmp (pth 12))), opAt P 49 1 10, (some (pth 2)), none⟩])
.ret)), [.tmp (pth 2)]⟩
theorem cf49_ok : cFn Tryd.prog 49 = some (cf49 Tryd.prog) := by kernel_rfl
def cf50 (P : Program) : FF := ⟨44, (.seq (.seqr [⟨(.mv (.val (.slice none 0 0))), opAt P 50 0 0, (some (pth 2)), none⟩,
⟨(.mv (.val (.int .i64 (0)))), opAt P 50 0 1, (some (pth 3)), none⟩,
⟨(.mv (.val (.int .i64 (0)))), opAt P 50 0 2, (some (pth 4)), none⟩])
(.seq (.seq (.seqr [⟨(.mv (.tmp (pth 0))), opAt P 50 1 0, (some (pth 7)), none⟩,
⟨.slow, opAt P 50 1 1, (some (pth 8)), none⟩,
⟨(.bin .lss (.tmp (pth 8)) (.val (.int .i64 (8)))), opAt P 50 1 2, (some (pth 9)), none⟩])
(.cond (.tmp (pth 9)) (.seq (.seqr [⟨(.mv (.val (.slice none 0 0))), opAt P 50 2 0, (some (pth 2)), none⟩,
⟨(.mv (.val (.int .i64 (0)))), opAt P 50 2 1, (some (pth 3)), none⟩,
⟨(.mv (.val (.int .i64 (2)))), opAt P 50 2 2, (some (pth 4)), none⟩])
.ret)
.skip))
(.seq (.seq (.seqr [⟨(.mv (.tmp (pth 0))), opAt P 50 3 0, (some (pth 10)), none⟩,
⟨.slow, opAt P 50 3 1, (some (pth 11)), none⟩,
⟨.slow, opAt P 50 3 2, (some (pth 12)), none⟩,
⟨(.call 26 [(.tmp (pth 12))]), opAt P 50 3 3, (some (pth 13)), none⟩,
⟨(.mv (.tmp (pth 0))), opAt P 50 3 4, (some (pth 14)), none⟩,
⟨(.call 62 [(.tmp (pth 14)), (.val (.int .i64 (4)))]), opAt P 50 3 5, (some (pth 15)), none⟩,
⟨(.bin .neq (.tmp (pth 13)) (.tmp (pth 15))), opAt P 50 3 6, (some (pth 16)), none⟩])
(.cond (.tmp (pth 16)) (.seq (.seqr [⟨(.mv (.val (.slice none 0 0))), opAt P 50 4 0, (some (pth 2)), none⟩,
⟨(.mv (.val (.int .i64 (0)))), opAt P 50 4 1, (some (pth 3)), none⟩,
⟨(.mv (.val (.int .i64 (4)))), opAt P 50 4 2, (some (pth 4)), none⟩])
.ret)
.skip))
(.seq (.seqr [⟨(.mv (.tmp (pth 0))), opAt P 50 5 0, (some (pth 17)), none⟩,
⟨(.call 62 [(.tmp (pth 17)), (.val (.int .i64 (0)))]), opAt P 50 5 1, (some (pth 18)), none⟩,
⟨(.mv (.tmp (pth 18))), opAt P 50 5 2, (some (pth 5)), none⟩])
(.seq (.seq (.seqr [⟨(.mv (.tmp (pth 5))), opAt P 50 6 0, (some (pth 19)), none⟩,
⟨(.bin .gtr (.tmp (pth 19)) (.val (.int .u32 (1048576)))), opAt P 50 6 1, (some (pth 20)), none⟩])
(.cond (.tmp (pth 20)) (.seq (.seqr [⟨(.mv (.val (.slice none 0 0))), opAt P 50 7 0, (some (pth 2)), none⟩,
⟨(.mv (.val (.int .i64 (0)))), opAt P 50 7 1, (some (pth 3)), none⟩,
⟨(.mv (.val (.int .i64 (5)))), opAt P 50 7 2, (some (pth 4)), none⟩])
.ret)
.skip))
(.seq (.seqr [⟨(.mv (.tmp (pth 5))), opAt P 50 8 0, (some (pth 21)), none⟩,
⟨.slow, opAt P 50 8 1, (some (pth 22)), none⟩,
⟨(.bin .add (.val (.int .i64 (8))) (.tmp (pth 22))), opAt P 50 8 2, (some (pth 23)), none⟩,
⟨(.mv (.tmp (pth 23))), opAt P 50 8 3, (some (pth 6)), none⟩])
(.seq (.seq (.seqr [⟨(.mv (.tmp (pth 0))), opAt P 50 9 0, (some (pth 24)), none⟩,
⟨.slow, opAt P 50 9 1, (some (pth 25)), none⟩,
⟨(.mv (.tmp (pth 6))), opAt P 50 9 2, (some (pth 26)), none⟩,
⟨(.bin .add (.tmp (pth 26)) (.val (.int .i64 (4)))), opAt P 50 9 3, (some (pth 27)), none⟩,
⟨(.bin .lss (.tmp (pth 25)) (.tmp (pth 27))), opAt P 50 9 4, (some (pth 28)), none⟩])
(.cond (.tmp (pth 28)) (.seq (.seqr [⟨(.mv (.val (.slice none 0 0))), opAt P 50 10 0, (some (pth 2)), none⟩,
⟨(.mv (.val (.int .i64 (0)))), opAt P 50 10 1, (some (pth 3)), none⟩,
⟨(.mv (.val (.int .i64 (2)))), opAt P 50 10 2, (some (pth 4)), none⟩])
.ret)
.skip))
(.seq (.seq (.seqr [⟨(.mv (.tmp (pth 0))), opAt P 50 11 0, (some (pth 29)), none⟩,
⟨(.mv (.tmp (pth 6))), opAt P 50 11 1, (some (pth 30)), none⟩,
⟨.slow, opAt P 50 11 2, (some (pth 31)), none⟩,
⟨.slow, opAt P 50 11 3, (some (pth 32)), none⟩,
⟨(.call 26 [(.tmp (pth 32))]), opAt P 50 11 4, (some (pth 33)), none⟩,
⟨(.mv (.tmp (pth 0))), opAt P 50 11 5, (some (pth 34)), none⟩,
⟨(.mv (.tmp (pth 6))), opAt P 50 11 6, (some (pth 35)), none⟩,
⟨(.call 62 [(.tmp (pth 34)), (.tmp (pth 35))]), opAt P 50 11 7, (some (pth 36)), none⟩,
⟨(.bin .neq (.tmp (pth 33)) (.tmp (pth 36))), opAt P 50 11 8, (some (pth 37)), none⟩])
(.cond (.tmp (pth 37)) (.seq (.seqr [⟨(.mv (.val (.slice none 0 0))), opAt P 50 12 0, (some (pth 2)), none⟩,
⟨(.mv (.val (.int .i64 (0)))), opAt P 50 12 1, (some (pth 3)), none⟩,
⟨(.mv (.val (.int .i64 (4)))), opAt P 50 12 2, (some (pth 4)), none⟩])
.ret)
.skip))
(.seq (.seqr [⟨(.mv (.tmp (pth 0))), opAt P 50 13 0, (some (pth 38)), none⟩,
⟨(.mv (.tmp (pth 6))), opAt P 50 13 1, (some (pth 39)), none⟩,
⟨.slow, opAt P 50 13 2, (some (pth 40)), none⟩,
⟨(.call 19 [(.tmp (pth 40))]), opAt P 50 13 3, (some (pth 41)), none⟩,
⟨(.mv (.tmp (pth 6))), opAt P 50 13 4, (some (pth 42)), none⟩,
⟨(.bin .add (.tmp (pth 42)) (.val (.int .i64 (4)))), opAt P 50 13 5, (some (pth 43)), none⟩,
⟨(.mv (.tmp (pth 41))), opAt P 50 13 6, (some (pth 2)), none⟩,
⟨(.mv (.tmp (pth 43))), opAt P 50 13 7, (some (pth 3)), none⟩,
⟨(.mv (.val (.int .i64 (0)))), opAt P 50 13 8, (some (pth 4)), none⟩])
.ret))))))))), [.tmp (pth 2), .tmp (pth 3), .tmp (pth 4)]⟩
theorem cf50_ok : cFn Tryd.prog 50 = some (cf50 Tryd.prog) := by kernel_rfl
def cf51 (P : Program) : FF := ⟨18, (.seq (.seqr [⟨(.mv (.val (.bool false))), opAt P 51 0 0, (some (pth 4)), none⟩])
(.seq (.seq (.seqr [⟨(.mv (.tmp (pth 0))), opAt P 51 1 0, (some (pth 7)), none⟩,
⟨.slow, opAt P 51 1 1, (some (pth 8)), none⟩,
⟨(.mv (.val (.int .i64 (0)))), opAt P 51 1 2, (some (pth 9)), none⟩])
(.block 0 (.loop (.seq (.seqr [⟨(.bin .lss (.tmp (pth 9)) (.tmp (pth 8))), opAt P 51 2 0, (some (pth 10)), none⟩])
(.seq (.cond (.tmp (pth 10)) .skip
(.exit 0))
(.seq (.block 1 (.seq (.seqr [⟨(.ia (.tmp (pth 7)) (.tmp (pth 9)) 1), opAt P 51 3 0, (some (pth 11)), none⟩,
⟨(.ld 22 (.tmp (pth 11))), opAt P 51 3 1, (some (pth 12)), none⟩,
⟨(.mv (.tmp (pth 12))), opAt P 51 3 2, (some (pth 6)), none⟩])
(.seq (.seqr [⟨(.mv (.tmp (pth 1))), opAt P 51 4 0, (some (pth 13)), none⟩,
⟨(.mv (.tmp (pth 6))), opAt P 51 4 1, (some (pth 14)), none⟩,
⟨.slow, opAt P 51 4 2, (some (pth 15)), none⟩,
⟨(.un .not (.tmp (pth 15))), opAt P 51 4 3, (some (pth 16)), none⟩])
(.cond (.tmp (pth 16)) (.seq (.seqr [⟨(.mv (.val (.bool false))), opAt P 51 5 0, (some (pth 4)), none⟩])
.ret)
.skip))))
(.seqr [⟨(.bin .add (.tmp (pth 9)) (.val (.int .i64 (1)))), opAt P 51 6 0, (some (pth 17)), none⟩,
⟨(.mv (.tmp (pth 17))), opAt P 51 6 1, (some (pth 9)), none⟩])))))))
(.seq (.seqr [⟨(.mv (.val (.bool true))), opAt P 51 7 0, (some (pth 4)), none⟩])
.ret))), [.tmp (pth 4)]⟩
theorem cf51_ok : cFn Tryd.prog 51 = some (cf51 Tryd.prog) := by kernel_rfl
def cf52 (P : Program) : FF := ⟨76, (.seq (.seqr [⟨(.mv (.val (.bool false))), opAt P 52 0 0, (some (pth 4)), none⟩])
(.seq (.seqr [⟨(.mv (.tmp (pth 1))), opAt P 52 1 0, (some (pth 8)), none⟩,
⟨(.call 46 [(.tmp (pth 8))]), opAt P 52 1 1, (some (pth 9)), none⟩,
⟨(.mv (.tmp (pth 9))), opAt P 52 1 2, (some (pth 5)), none⟩])
(.seq (.seqr [⟨(.mv (.tmp (pth 5))), opAt P 52 2 0, (some (pth 10)), none⟩,
⟨(.call 47 [(.tmp (pth 10))]), opAt P 52 2 1, (some (pth 11)), none⟩,
⟨(.mv (.tmp (pth 5))), opAt P 52 2 2, (some (pth 12)), none⟩,
⟨(.call 48 [(.tmp (pth 12))]), opAt P 52 2 3, (some (pth 13)), none⟩,
⟨(.mv (.tmp (pth 11))), opAt P 52 2 4, (some (pth 6)), none⟩,
⟨(.mv (.tmp (pth 13))), opAt P 52 2 5, (some (pth 7)), none⟩])
(.seq (.seq (.seqr [⟨(.mv (.tmp (pth 5))), opAt P 52 3 0, (some (pth 14)), none⟩,
⟨(.call 49 [(.tmp (pth 14))]), opAt P 52 3 1, (some (pth 15)), none⟩,
⟨(.un .not (.tmp (pth 15))), opAt P 52 3 2, (some (pth 16)), none⟩,
⟨(.mv (.tmp (pth 16))), opAt P 52 3 3, (some (pth 17)), none⟩,
⟨(.mv (.tmp (pth 6))), opAt P 52 3 4, (some (pth 18)), (some ((pth 17), false))⟩,
⟨(.bin .lss (.tmp (pth 18)) (.val (.int .i64 (1)))), opAt P 52 3 5, (some (pth 19)), (some ((pth 17), false))⟩,
⟨(.pick (.tmp (pth 17)) (.val (.bool true)) (.tmp (pth 19))), opAt P 52 3 6, (some (pth 20)), none⟩,
⟨(.mv (.tmp (pth 20))), opAt P 52 3 7, (some (pth 21)), none⟩,
⟨(.mv (.tmp (pth 6))), opAt P 52 3 8, (some (pth 22)), (some ((pth 21), false))⟩,
⟨(.bin .gtr (.tmp (pth 22)) (.val (.int .i64 (1099511627776)))), opAt P 52 3 9, (some (pth 23)), (some ((pth 21), false))⟩,
⟨(.pick (.tmp (pth 21)) (.val (.bool true)) (.tmp (pth 23))), opAt P 52 3 10, (some (pth 24)), none⟩,
⟨(.mv (.tmp (pth 24))), opAt P 52 3 11, (some (pth 25)), none⟩,
⟨(.mv (.tmp (pth 0))), opAt P 52 3 12, (some (pth 26)), (some ((pth 25), false))⟩,
⟨(.nc (.tmp (pth 26))), opAt P 52 3 13, (some (pth 27)), (some ((pth 25), false))⟩,
⟨(.fa (.tmp (pth 27)) 1), opAt P 52 3 14, (some (pth 28)), (some ((pth 25), false))⟩,
⟨(.ld 3 (.tmp (pth 28))), opAt P 52 3 15, (some (pth 29)), (some ((pth 25), false))⟩,
⟨(.bin .gtr (.tmp (pth 29)) (.val (.int .i64 (0)))), opAt P 52 3 16, (some (pth 30)), (some ((pth 25), false))⟩,
⟨(.mv (.tmp (pth 30))), opAt P 52 3 17, (some (pth 31)), (some ((pth 25), false))⟩,
⟨(.mv (.tmp (pth 6))), opAt P 52 3 18, (some (pth 32)), (some ((pth 31), true))⟩,
⟨(.mv (.tmp (pth 0))), opAt P 52 3 19, (some (pth 33)), (some ((pth 31), true))⟩,
⟨(.nc (.tmp (pth 33))), opAt P 52 3 20, (some (pth 34)), (some ((pth 31), true))⟩,
⟨(.fa (.tmp (pth 34)) 1), opAt P 52 3 21, (some (pth 35)), (some ((pth 31), true))⟩,
⟨(.ld 3 (.tmp (pth 35))), opAt P 52 3 22, (some (pth 36)), (some ((pth 31), true))⟩,
⟨(.bin .add (.tmp (pth 36)) (.val (.int .i64 (1)))), opAt P 52 3 23, (some (pth 37)), (some ((pth 31), true))⟩,
⟨(.bin .neq (.tmp (pth 32)) (.tmp (pth 37))), opAt P 52 3 24, (some (pth 38)), (some ((pth 31), true))⟩,
⟨(.pick (.tmp (pth 31)) (.tmp (pth 38)) (.val (.bool false))), opAt P 52 3 25, (some (pth 39)), (some ((pth 25), false))⟩,
⟨(.pick (.tmp (pth 25)) (.val (.bool true)) (.tmp (pth 39))), opAt P 52 3 26, (some (pth 40)), none⟩])
(.cond (.tmp (pth 40)) (.seq (.seqr [⟨(.mv (.val (.bool false))), opAt P 52 4 0, (some (pth 4)), none⟩])
.ret)
.skip))
(.seq (.seqr [⟨(.mv (.tmp (pth 0))), opAt P 52 5 0, (some (pth 41)), none⟩,
⟨(.mv (.tmp (pth 6))), opAt P 52 5 1, (some (pth 42)), none⟩,
⟨(.nc (.tmp (pth 41))), opAt P 52 5 2, (some (pth 43)), none⟩,
⟨(.fa (.tmp (pth 43)) 1), opAt P 52 5 3, (some (pth 44)), none⟩,
⟨(.st 3 (.tmp (pth 44)) (.tmp (pth 42))), opAt P 52 5 4, none, none⟩])
(.seq (.seq (.seqr [⟨(.mv (.tmp (pth 6))), opAt P 52 6 0, (some (pth 45)), none⟩,
⟨(.mv (.tmp (pth 0))), opAt P 52 6 1, (some (pth 46)), none⟩,
⟨(.nc (.tmp (pth 46))), opAt P 52 6 2, (some (pth 47)), none⟩,
⟨(.fa (.tmp (pth 47)) 0), opAt P 52 6 3, (some (pth 48)), none⟩,
⟨(.ld 3 (.tmp (pth 48))), opAt P 52 6 4, (some (pth 49)), none⟩,
⟨(.bin .leq (.tmp (pth 45)) (.tmp (pth 49))), opAt P 52 6 5, (some (pth 50)), none⟩])
(.cond (.tmp (pth 50)) (.seq (.seqr [⟨(.mv (.val (.bool true))), opAt P 52 7 0, (some (pth 4)), none⟩])
.ret)
.skip))
(.seq (.seq (.seqr [⟨(.mv (.tmp (pth 0))), opAt P 52 8 0, (some (pth 51)), none⟩,
⟨(.nc (.tmp (pth 51))), opAt P 52 8 1, (some (pth 52)), none⟩,
⟨(.fa (.tmp (pth 52)) 2), opAt P 52 8 2, (some (pth 53)), none⟩,
⟨(.ld 42 (.tmp (pth 53))), opAt P 52 8 3, (some (pth 54)), none⟩,
⟨.slow, opAt P 52 8 4, (some (pth 55)), none⟩,
⟨(.bin .eql (.tmp (pth 55)) (.val (.int .i64 (0)))), opAt P 52 8 5, (some (pth 56)), none⟩,
⟨(.mv (.tmp (pth 56))), opAt P 52 8 6, (some (pth 57)), none⟩,
⟨(.mv (.tmp (pth 6))), opAt P 52 8 7, (some (pth 58)), (some ((pth 57), true))⟩,
⟨(.mv (.tmp (pth 0))), opAt P 52 8 8, (some (pth 59)), (some ((pth 57), true))⟩,
⟨(.nc (.tmp (pth 59))), opAt P 52 8 9, (some (pth 60)), (some ((pth 57), true))⟩,
⟨(.fa (.tmp (pth 60)) 0), opAt P 52 8 10, (some (pth 61)), (some ((pth 57), true))⟩,
⟨(.ld 3 (.tmp (pth 61))), opAt P 52 8 11, (some (pth 62)), (some ((pth 57), true))⟩,
⟨(.bin .add (.tmp (pth 62)) (.val (.int .i64 (1)))), opAt P 52 8 12, (some (pth 63)), (some ((pth 57), true))⟩,
⟨(.bin .neq (.tmp (pth 58)) (.tmp (pth 63))), opAt P 52 8 13, (some (pth 64)), (some ((pth 57), true))⟩,
⟨(.pick (.tmp (pth 57)) (.tmp (pth 64)) (.val (.bool false))), opAt P 52 8 14, (some (pth 65)), none⟩])
(.cond (.tmp (pth 65)) (.seq (.seqr [⟨(.mv (.val (.bool false))), opAt P 52 9 0, (some (pth 4)), none⟩])
.ret)
.skip))
(.seq (.seqr [⟨(.mv (.tmp (pth 0))), opAt P 52 10 0, (some (pth 66)), none⟩,
⟨(.mv (.tmp (pth 0))), opAt P 52 10 1, (some (pth 67)), none⟩,
⟨(.nc (.tmp (pth 67))), opAt P 52 10 2, (some (pth 68)), none⟩,
⟨(.fa (.tmp (pth 68)) 2), opAt P 52 10 3, (some (pth 69)), none⟩,
⟨(.ld 42 (.tmp (pth 69))), opAt P 52 10 4, (some (pth 70)), none⟩,
⟨(.mv (.tmp (pth 7))), opAt P 52 10 5, (some (pth 71)), none⟩,
⟨.slow, opAt P 52 10 6, (some (pth 72)), none⟩,
⟨.slow, opAt P 52 10 7, (some (pth 73)), none⟩,
⟨(.nc (.tmp (pth 66))), opAt P 52 10 8, (some (pth 74)), none⟩,
⟨(.fa (.tmp (pth 74)) 2), opAt P 52 10 9, (some (pth 75)), none⟩,
⟨(.st 42 (.tmp (pth 75)) (.tmp (pth 73))), opAt P 52 10 10, none, none⟩])
(.seq (.seqr [⟨(.mv (.val (.bool true))), opAt P 52 11 0, (some (pth 4)), none⟩])
.ret))))))))), [.tmp (pth 4)]⟩
theorem cf52_ok : cFn Tryd.prog 52 = some (cf52 Tryd.prog) := by kernel_rfl
def cf53 (P : Program) : FF := ⟨25, (.seq (.seqr [⟨(.mv (.val (.int .i64 (0)))), opAt P 53 0 0, (some (pth 4)), none⟩])
(.seq (.seq (.seqr [⟨(.mv (.tmp (pth 0))), opAt P 53 1 0, (some (pth 6)), none⟩,
⟨(.mv (.tmp (pth 1))), opAt P 53 1 1, (some (pth 7)), none⟩,
⟨.slow, opAt P 53 1 2, (some (pth 8)), none⟩,
⟨(.call 30 [(.tmp (pth 6)), (.tmp (pth 8))]), opAt P 53 1 3, (some (pth 9)), none⟩,
⟨(.mv (.tmp (pth 9))), opAt P 53 1 4, (some (pth 5)), none⟩])
(.seq (.seqr [⟨(.mv (.tmp (pth 5))), opAt P 53 2 0, (some (pth 10)), none⟩,
⟨(.bin .neq (.tmp (pth 10)) (.val (.int .i64 (0)))), opAt P 53 2 1, (some (pth 11)), none⟩])
(.cond (.tmp (pth 11)) (.seq (.seqr [⟨(.mv (.tmp (pth 5))), opAt P 53 3 0, (some (pth 12)), none⟩,
⟨(.mv (.tmp (pth 12))), opAt P 53 3 1, (some (pth 4)), none⟩])
.ret)
.skip)))
(.seq (.seq (.seqr [⟨(.mv (.tmp (pth 0))), opAt P 53 4 0, (some (pth 13)), none⟩,
⟨(.nc (.tmp (pth 13))), opAt P 53 4 1, (some (pth 14)), none⟩,
⟨(.fa (.tmp (pth 14)) 2), opAt P 53 4 2, (some (pth 15)), none⟩,
⟨(.ld 62 (.tmp (pth 15))), opAt P 53 4 3, (some (pth 16)), none⟩,
⟨(.mv (.tmp (pth 1))), opAt P 53 4 4, (some (pth 17)), none⟩,
⟨.slow, opAt P 53 4 5, (some (pth 18)), none⟩,
⟨(.bin .eql (.tmp (pth 18)) (.val (.pointer none))), opAt P 53 4 6, (some (pth 19)), none⟩])
(.cond (.tmp (pth 19)) (.seq (.seqr [⟨(.mv (.val (.int .i64 (7)))), opAt P 53 5 0, (some (pth 4)), none⟩])
.ret)
.skip))
(.seq (.seqr [⟨(.mv (.tmp (pth 0))), opAt P 53 6 0, (some (pth 20)), none⟩,
⟨(.mv (.tmp (pth 1))), opAt P 53 6 1, (some (pth 21)), none⟩,
⟨(.call 54 [(.tmp (pth 20)), (.tmp (pth 21))]), opAt P 53 6 2, (some (pth 22)), none⟩])
(.seq (.seqr [⟨(.mv (.tmp (pth 0))), opAt P 53 7 0, (some (pth 23)), none⟩,
⟨(.call 32 [(.tmp (pth 23))]), opAt P 53 7 1, (some (pth 24)), none⟩,
⟨(.mv (.tmp (pth 24))), opAt P 53 7 2, (some (pth 4)), none⟩])
.ret))))), [.tmp (pth 4)]⟩
theorem cf53_ok : cFn Tryd.prog 53 = some (cf53 Tryd.prog) := by kernel_rfl
def cf54 (P : Program) : FF := ⟨30, (.seq (.seqr [⟨(.mv (.tmp (pth 0))), opAt P 54 0 0, (some (pth 5)), none⟩,
⟨(.nc (.tmp (pth 5))), opAt P 54 0 1, (some (pth 6)), none⟩,
⟨(.fa (.tmp (pth 6)) 2), opAt P 54 0 2, (some (pth 7)), none⟩,
⟨(.ld 62 (.tmp (pth 7))), opAt P 54 0 3, (some (pth 8)), none⟩,
⟨(.mv (.tmp (pth 1))), opAt P 54 0 4, (some (pth 9)), none⟩,
⟨.slow, opAt P 54 0 5, (some (pth 10)), none⟩,
⟨(.mv (.tmp (pth 10))), opAt P 54 0 6, (some (pth 4)), none⟩])
(.seq (.seqr [⟨(.mv (.tmp (pth 4))), opAt P 54 1 0, (some (pth 11)), none⟩,
⟨(.bin .neq (.tmp (pth 11)) (.val (.pointer none))), opAt P 54 1 1, (some (pth 12)), none⟩])
(.cond (.tmp (pth 12)) (.seq (.reg [⟨(.mv (.tmp (pth 0))), opAt P 54 2 0, (some (pth 13)), none⟩,
⟨(.nc (.tmp (pth 13))), opAt P 54 2 1, (some (pth 14)), none⟩,
⟨(.fa (.tmp (pth 14)) 1), opAt P 54 2 2, (some (pth 15)), none⟩,
⟨(.ld 3 (.tmp (pth 15))), opAt P 54 2 3, (some (pth 16)), none⟩,
⟨(.mv (.tmp (pth 4))), opAt P 54 2 4, (some (pth 17)), none⟩,
⟨(.nc (.tmp (pth 17))), opAt P 54 2 5, (some (pth 18)), none⟩,
⟨(.fa (.tmp (pth 18)) 0), opAt P 54 2 6, (some (pth 19)), none⟩,
⟨(.ld 22 (.tmp (pth 19))), opAt P 54 2 7, (some (pth 20)), none⟩,
⟨.slow, opAt P 54 2 8, (some (pth 21)), none⟩,
⟨(.bin .sub (.tmp (pth 16)) (.tmp (pth 21))), opAt P 54 2 9, (some (pth 22)), none⟩,
⟨(.nc (.tmp (pth 13))), opAt P 54 2 10, (some (pth 23)), none⟩,
⟨(.fa (.tmp (pth 23)) 1), opAt P 54 2 11, (some (pth 24)), none⟩,
⟨(.st 3 (.tmp (pth 24)) (.tmp (pth 22))), opAt P 54 2 12, none, none⟩] [(3, 7), (3, 8)])
(.seqr [⟨(.mv (.tmp (pth 0))), opAt P 54 3 0, (some (pth 25)), none⟩,
⟨(.nc (.tmp (pth 25))), opAt P 54 3 1, (some (pth 26)), none⟩,
⟨(.fa (.tmp (pth 26)) 2), opAt P 54 3 2, (some (pth 27)), none⟩,
⟨(.ld 62 (.tmp (pth 27))), opAt P 54 3 3, (some (pth 28)), none⟩,
⟨(.mv (.tmp (pth 1))), opAt P 54 3 4, (some (pth 29)), none⟩,
⟨.slow, opAt P 54 3 5, none, none⟩]))
.skip))), []⟩
theorem cf54_ok : cFn Tryd.prog 54 = some (cf54 Tryd.prog) := by kernel_rfl
def cf55 (P : Program) : FF := ⟨19, (.seq (.seqr [⟨(.mv (.val (.int .i64 (0)))), opAt P 55 0 0, (some (pth 4)), none⟩])
(.seq (.seq (.seqr [⟨(.mv (.tmp (pth 0))), opAt P 55 1 0, (some (pth 6)), none⟩,
⟨.slow, opAt P 55 1 1, (some (pth 7)), none⟩,
⟨(.mv (.val (.int .i64 (0)))), opAt P 55 1 2, (some (pth 8)), none⟩])
(.block 0 (.loop (.seq (.seqr [⟨(.bin .lss (.tmp (pth 8)) (.tmp (pth 7))), opAt P 55 2 0, (some (pth 9)), none⟩])
(.seq (.cond (.tmp (pth 9)) .skip
(.exit 0))
(.seq (.block 1 (.seq (.seqr [⟨(.mv (.tmp (pth 8))), opAt P 55 3 0, (some (pth 10)), none⟩,
⟨(.mv (.tmp (pth 10))), opAt P 55 3 1, (some (pth 5)), none⟩])
(.seq (.seqr [⟨(.mv (.tmp (pth 1))), opAt P 55 4 0, (some (pth 11)), none⟩,
⟨(.mv (.tmp (pth 0))), opAt P 55 4 1, (some (pth 12)), none⟩,
⟨(.mv (.tmp (pth 5))), opAt P 55 4 2, (some (pth 13)), none⟩,
⟨(.ia (.tmp (pth 12)) (.tmp (pth 13)) 1), opAt P 55 4 3, (some (pth 14)), none⟩,
⟨(.ld 9 (.tmp (pth 14))), opAt P 55 4 4, (some (pth 15)), none⟩,
⟨(.bin .eql (.tmp (pth 11)) (.tmp (pth 15))), opAt P 55 4 5, (some (pth 16)), none⟩])
(.cond (.tmp (pth 16)) (.seq (.seqr [⟨(.mv (.tmp (pth 5))), opAt P 55 5 0, (some (pth 17)), none⟩,
⟨(.mv (.tmp (pth 17))), opAt P 55 5 1, (some (pth 4)), none⟩])
.ret)
.skip))))
(.seqr [⟨(.bin .add (.tmp (pth 8)) (.val (.int .i64 (1)))), opAt P 55 6 0, (some (pth 18)), none⟩,
⟨(.mv (.tmp (pth 18))), opAt P 55 6 1, (some (pth 8)), none⟩])))))))
(.seq (.seqr [⟨(.mv (.val (.int .i64 (-1)))), opAt P 55 7 0, (some (pth 4)), none⟩])
.ret))), [.tmp (pth 4)]⟩
theorem cf55_ok : cFn Tryd.prog 55 = some (cf55 Tryd.prog) := by kernel_rfl
def cf56 (P : Program) : FF := ⟨9, (.seq (.seqr [⟨(.mv (.val (.slice none 0 0))), opAt P 56 0 0, (some (pth 2)), none⟩])
(.seq (.seqr [⟨(.mv (.tmp (pth 0))), opAt P 56 1 0, (some (pth 4)), none⟩,
⟨(.call 63 [(.tmp (pth 4))]), opAt P 56 1 1, (some (pth 5)), none⟩,
⟨(.mv (.tmp (pth 5))), opAt P 56 1 2, (some (pth 3)), none⟩])
(.seq (.seqr [⟨(.mv (.tmp (pth 3))), opAt P 56 2 0, (some (pth 6)), none⟩,
⟨(.call 64 [(.tmp (pth 6))]), opAt P 56 2 1, (some (pth 7)), none⟩])
(.seq (.seqr [⟨(.mv (.tmp (pth 3))), opAt P 56 3 0, (some (pth 8)), none⟩,
⟨(.mv (.tmp (pth 8))), opAt P 56 3 1, (some (pth 2)), none⟩])
.ret)))), [.tmp (pth 2)]⟩
theorem cf56_ok : cFn Tryd.prog 56 = some (cf56 Tryd.prog) := by kernel_rfl
def cf57 (P : Program) : FF := ⟨4, (.seq (.seqr [⟨.slow, opAt P 57 0 0, (some (pth 1)), none⟩,
⟨(.mv (.val .nilFunc)), opAt P 57 0 1, (some (pth 2)), none⟩])
(.seq (.seqr [⟨.slow, opAt P 57 1 0, (some (pth 3)), none⟩,
⟨(.mv (.tmp (pth 3))), opAt P 57 1 1, (some (pth 2)), none⟩])
.ret)), [.tmp (pth 2)]⟩
theorem cf57_ok : cFn Tryd.prog 57 = some (cf57 Tryd.prog) := by kernel_rfl
def cf58 (P : Program) : FF := ⟨21, (.seq (.seqr [⟨(.mv (.val (.slice none 0 0))), opAt P 58 0 0, (some (pth 2)), none⟩,
⟨(.mv (.val (.int .i64 (0)))), opAt P 58 0 1, (some (pth 3)), none⟩])
(.seq (.seqr [⟨(.mv (.tmp (pth 0))), opAt P 58 1 0, (some (pth 8)), none⟩,
⟨(.call 50 [(.tmp (pth 8))]), opAt P 58 1 1, (some (pth 9)), none⟩,
⟨(.mv (.tmp (pth 9))), opAt P 58 1 2, (some (pth 7)), none⟩,
⟨(.ext (.tmp (pth 7)) 0), opAt P 58 1 3, (some (pth 10)), none⟩,
⟨(.ext (.tmp (pth 7)) 1), opAt P 58 1 4, (some (pth 11)), none⟩,
⟨(.ext (.tmp (pth 7)) 2), opAt P 58 1 5, (some (pth 12)), none⟩,
⟨(.mv (.tmp (pth 10))), opAt P 58 1 6, (some (pth 4)), none⟩,
⟨(.mv (.tmp (pth 11))), opAt P 58 1 7, (some (pth 5)), none⟩,
⟨(.mv (.tmp (pth 12))), opAt P 58 1 8, (some (pth 6)), none⟩])
(.seq (.seq (.seqr [⟨(.mv (.tmp (pth 6))), opAt P 58 2 0, (some (pth 13)), none⟩,
⟨(.bin .neq (.tmp (pth 13)) (.val (.int .i64 (0)))), opAt P 58 2 1, (some (pth 14)), none⟩])
(.cond (.tmp (pth 14)) (.seq (.seqr [⟨(.mv (.tmp (pth 6))), opAt P 58 3 0, (some (pth 15)), none⟩,
⟨(.mv (.val (.slice none 0 0))), opAt P 58 3 1, (some (pth 2)), none⟩,
⟨(.mv (.tmp (pth 15))), opAt P 58 3 2, (some (pth 3)), none⟩])
.ret)
.skip))
(.seq (.seq (.seqr [⟨(.mv (.tmp (pth 5))), opAt P 58 4 0, (some (pth 16)), none⟩,
⟨(.mv (.tmp (pth 0))), opAt P 58 4 1, (some (pth 17)), none⟩,
⟨.slow, opAt P 58 4 2, (some (pth 18)), none⟩,
⟨(.bin .neq (.tmp (pth 16)) (.tmp (pth 18))), opAt P 58 4 3, (some (pth 19)), none⟩])
(.cond (.tmp (pth 19)) (.seq (.seqr [⟨(.mv (.val (.slice none 0 0))), opAt P 58 5 0, (some (pth 2)), none⟩,
⟨(.mv (.val (.int .i64 (3)))), opAt P 58 5 1, (some (pth 3)), none⟩])
.ret)
.skip))
(.seq (.seqr [⟨(.mv (.tmp (pth 4))), opAt P 58 6 0, (some (pth 20)), none⟩,
⟨(.mv (.tmp (pth 20))), opAt P 58 6 1, (some (pth 2)), none⟩,
⟨(.mv (.val (.int .i64 (0)))), opAt P 58 6 2, (some (pth 3)), none⟩])
.ret))))), [.tmp (pth 2), .tmp (pth 3)]⟩
theorem cf58_ok : cFn Tryd.prog 58 = some (cf58 Tryd.prog) := by kernel_rfl
def cf59 (P : Program) : FF := ⟨10, (.seq (.seq (.seqr [⟨(.mv (.tmp (pth 0))), opAt P 59 0 0, (some (pth 2)), none⟩,
⟨(.bin .eql (.tmp (pth 2)) (.val (.pointer none))), opAt P 59 0 1, (some (pth 3)), none⟩])
(.cond (.tmp (pth 3)) .ret
.skip))
(.seqr [⟨(.mv (.tmp (pth 0))), opAt P 59 1 0, (some (pth 4)), none⟩,
⟨(.mv (.tmp (pth 0))), opAt P 59 1 1, (some (pth 5)), none⟩,
⟨(.nc (.tmp (pth 4))), opAt P 59 1 2, (some (pth 6)), none⟩,
⟨(.fa (.tmp (pth 6)) 0), opAt P 59 1 3, (some (pth 7)), none⟩,
⟨(.st 22 (.tmp (pth 7)) (.val (.slice none 0 0))), opAt P 59 1 4, none, none⟩,
⟨(.nc (.tmp (pth 5))), opAt P 59 1 5, (some (pth 8)), none⟩,
⟨(.fa (.tmp (pth 8)) 1), opAt P 59 1 6, (some (pth 9)), none⟩,
⟨(.st 4 (.tmp (pth 9)) (.val (.bool true))), opAt P 59 1 7, none, none⟩])), []⟩
theorem cf59_ok : cFn Tryd.prog 59 = some (cf59 Tryd.prog) := by kernel_rfl
def cf60 (P : Program) : FF := ⟨38, (.seq (.seqr [⟨(.mv (.val (.slice none 0 0))), opAt P 60 0 0, (some (pth 4)), none⟩])
(.seq (.seq (.seqr [⟨(.mv (.tmp (pth 0))), opAt P 60 1 0, (some (pth 6)), none⟩,
⟨(.bin .eql (.tmp (pth 6)) (.val (.pointer none))), opAt P 60 1 1, (some (pth 7)), none⟩])
(.cond (.tmp (pth 7)) (.seq (.seqr [⟨(.mv (.val (.slice none 0 0))), opAt P 60 2 0, (some (pth 4)), none⟩])
.ret)
.skip))
(.seq (.seq (.seqr [⟨(.mv (.tmp (pth 1))), opAt P 60 3 0, (some (pth 8)), none⟩,
⟨(.bin .lss (.tmp (pth 8)) (.val (.int .i64 (0)))), opAt P 60 3 1, (some (pth 9)), none⟩,
⟨(.mv (.tmp (pth 9))), opAt P 60 3 2, (some (pth 10)), none⟩,
⟨(.mv (.tmp (pth 1))), opAt P 60 3 3, (some (pth 11)), (some ((pth 10), false))⟩,
⟨(.mv (.tmp (pth 0))), opAt P 60 3 4, (some (pth 12)), (some ((pth 10), false))⟩,
⟨(.nc (.tmp (pth 12))), opAt P 60 3 5, (some (pth 13)), (some ((pth 10), false))⟩,
⟨(.fa (.tmp (pth 13)) 0), opAt P 60 3 6, (some (pth 14)), (some ((pth 10), false))⟩,
⟨(.ld 22 (.tmp (pth 14))), opAt P 60 3 7, (some (pth 15)), (some ((pth 10), false))⟩,
⟨.slow, opAt P 60 3 8, (some (pth 16)), (some ((pth 10), false))⟩,
⟨(.bin .gtr (.tmp (pth 11)) (.tmp (pth 16))), opAt P 60 3 9, (some (pth 17)), (some ((pth 10), false))⟩,
⟨(.pick (.tmp (pth 10)) (.val (.bool true)) (.tmp (pth 17))), opAt P 60 3 10, (some (pth 18)), none⟩])
(.cond (.tmp (pth 18)) (.seq (.seqr [⟨(.mv (.tmp (pth 0))), opAt P 60 4 0, (some (pth 19)), none⟩,
⟨(.call 59 [(.tmp (pth 19))]), opAt P 60 4 1, (some (pth 20)), none⟩])
(.seq (.seqr [⟨(.mv (.val (.slice none 0 0))), opAt P 60 5 0, (some (pth 4)), none⟩])
.ret))
.skip))
(.seq (.seqr [⟨(.mv (.tmp (pth 0))), opAt P 60 6 0, (some (pth 21)), none⟩,
⟨(.nc (.tmp (pth 21))), opAt P 60 6 1, (some (pth 22)), none⟩,
⟨(.fa (.tmp (pth 22)) 0), opAt P 60 6 2, (some (pth 23)), none⟩,
⟨(.ld 22 (.tmp (pth 23))), opAt P 60 6 3, (some (pth 24)), none⟩,
⟨(.mv (.tmp (pth 1))), opAt P 60 6 4, (some (pth 25)), none⟩,
⟨.slow, opAt P 60 6 5, (some (pth 26)), none⟩,
⟨(.call 19 [(.tmp (pth 26))]), opAt P 60 6 6, (some (pth 27)), none⟩,
⟨(.mv (.tmp (pth 27))), opAt P 60 6 7, (some (pth 5)), none⟩])
(.seq (.seqr [⟨(.mv (.tmp (pth 0))), opAt P 60 7 0, (some (pth 28)), none⟩,
⟨(.mv (.tmp (pth 0))), opAt P 60 7 1, (some (pth 29)), none⟩,
⟨(.nc (.tmp (pth 29))), opAt P 60 7 2, (some (pth 30)), none⟩,
⟨(.fa (.tmp (pth 30)) 0), opAt P 60 7 3, (some (pth 31)), none⟩,
⟨(.ld 22 (.tmp (pth 31))), opAt P 60 7 4, (some (pth 32)), none⟩,
⟨(.mv (.tmp (pth 1))), opAt P 60 7 5, (some (pth 33)), none⟩,
⟨.slow, opAt P 60 7 6, (some (pth 34)), none⟩,
⟨(.nc (.tmp (pth 28))), opAt P 60 7 7, (some (pth 35)), none⟩,
⟨(.fa (.tmp (pth 35)) 0), opAt P 60 7 8, (some (pth 36)), none⟩,
⟨(.st 22 (.tmp (pth 36)) (.tmp (pth 34))), opAt P 60 7 9, none, none⟩])
(.seq (.seqr [⟨(.mv (.tmp (pth 5))), opAt P 60 8 0, (some (pth 37)), none⟩,
⟨(.mv (.tmp (pth 37))), opAt P 60 8 1, (some (pth 4)), none⟩])
.ret)))))), [.tmp (pth 4)]⟩
theorem cf60_ok : cFn Tryd.prog 60 = some (cf60 Tryd.prog) := by kernel_rfl
def cf61 (P : Program) : FF := ⟨12, (.seq (.seqr [⟨(.mv (.val (.bool false))), opAt P 61 0 0, (some (pth 2)), none⟩])
(.seq (.seqr [⟨(.mv (.tmp (pth 0))), opAt P 61 1 0, (some (pth 3)), none⟩,
⟨(.bin .neq (.tmp (pth 3)) (.val (.pointer none))), opAt P 61 1 1, (some (pth 4)), none⟩,
⟨(.mv (.tmp (pth 4))), opAt P 61 1 2, (some (pth 5)), none⟩,
⟨(.mv (.tmp (pth 0))), opAt P 61 1 3, (some (pth 6)), (some ((pth 5), true))⟩,
⟨(.nc (.tmp (pth 6))), opAt P 61 1 4, (some (pth 7)), (some ((pth 5), true))⟩,
⟨(.fa (.tmp (pth 7)) 1), opAt P 61 1 5, (some (pth 8)), (some ((pth 5), true))⟩,
⟨(.ld 4 (.tmp (pth 8))), opAt P 61 1 6, (some (pth 9)), (some ((pth 5), true))⟩,
⟨(.un .not (.tmp (pth 9))), opAt P 61 1 7, (some (pth 10)), (some ((pth 5), true))⟩,
⟨(.pick (.tmp (pth 5)) (.tmp (pth 10)) (.val (.bool false))), opAt P 61 1 8, (some (pth 11)), none⟩,
⟨(.mv (.tmp (pth 11))), opAt P 61 1 9, (some (pth 2)), none⟩])
.ret)), [.tmp (pth 2)]⟩
theorem cf61_ok : cFn Tryd.prog 61 = some (cf61 Tryd.prog) := by kernel_rfl
def cf62 (P : Program) : FF := ⟨34, (.seq (.seqr [⟨(.mv (.val (.int .u32 (0)))), opAt P 62 0 0, (some (pth 4)), none⟩])
(.seq (.reg [⟨(.mv (.tmp (pth 0))), opAt P 62 1 0, (some (pth 5)), none⟩,
⟨(.mv (.tmp (pth 1))), opAt P 62 1 1, (some (pth 6)), none⟩,
⟨(.ia (.tmp (pth 5)) (.tmp (pth 6)) 1), opAt P 62 1 2, (some (pth 7)), none⟩,
⟨(.ld 5 (.tmp (pth 7))), opAt P 62 1 3, (some (pth 8)), none⟩,
⟨.slow, opAt P 62 1 4, (some (pth 9)), none⟩,
⟨(.mv (.tmp (pth 0))), opAt P 62 1 5, (some (pth 10)), none⟩,
⟨(.mv (.tmp (pth 1))), opAt P 62 1 6, (some (pth 11)), none⟩,
⟨(.bin .add (.tmp (pth 11)) (.val (.int .i64 (1)))), opAt P 62 1 7, (some (pth 12)), none⟩,
⟨(.ia (.tmp (pth 10)) (.tmp (pth 12)) 1), opAt P 62 1 8, (some (pth 13)), none⟩,
⟨(.ld 5 (.tmp (pth 13))), opAt P 62 1 9, (some (pth 14)), none⟩,
⟨.slow, opAt P 62 1 10, (some (pth 15)), none⟩,
⟨(.bin .shl (.tmp (pth 15)) (.val (.int .u64 (8)))), opAt P 62 1 11, (some (pth 16)), none⟩,
⟨(.bin .or (.tmp (pth 9)) (.tmp (pth 16))), opAt P 62 1 12, (some (pth 17)), none⟩,
⟨(.mv (.tmp (pth 0))), opAt P 62 1 13, (some (pth 18)), none⟩,
⟨(.mv (.tmp (pth 1))), opAt P 62 1 14, (some (pth 19)), none⟩,
⟨(.bin .add (.tmp (pth 19)) (.val (.int .i64 (2)))), opAt P 62 1 15, (some (pth 20)), none⟩,
⟨(.ia (.tmp (pth 18)) (.tmp (pth 20)) 1), opAt P 62 1 16, (some (pth 21)), none⟩,
⟨(.ld 5 (.tmp (pth 21))), opAt P 62 1 17, (some (pth 22)), none⟩,
⟨.slow, opAt P 62 1 18, (some (pth 23)), none⟩,
⟨(.bin .shl (.tmp (pth 23)) (.val (.int .u64 (16)))), opAt P 62 1 19, (some (pth 24)), none⟩,
⟨(.bin .or (.tmp (pth 17)) (.tmp (pth 24))), opAt P 62 1 20, (some (pth 25)), none⟩,
⟨(.mv (.tmp (pth 0))), opAt P 62 1 21, (some (pth 26)), none⟩,
⟨(.mv (.tmp (pth 1))), opAt P 62 1 22, (some (pth 27)), none⟩,
⟨(.bin .add (.tmp (pth 27)) (.val (.int .i64 (3)))), opAt P 62 1 23, (some (pth 28)), none⟩,
⟨(.ia (.tmp (pth 26)) (.tmp (pth 28)) 1), opAt P 62 1 24, (some (pth 29)), none⟩,
⟨(.ld 5 (.tmp (pth 29))), opAt P 62 1 25, (some (pth 30)), none⟩,
⟨.slow, opAt P 62 1 26, (some (pth 31)), none⟩,
⟨(.bin .shl (.tmp (pth 31)) (.val (.int .u64 (24)))), opAt P 62 1 27, (some (pth 32)), none⟩,
⟨(.bin .or (.tmp (pth 25)) (.tmp (pth 32))), opAt P 62 1 28, (some (pth 33)), none⟩,
⟨(.mv (.tmp (pth 33))), opAt P 62 1 29, (some (pth 4)), none⟩] [(3, 7), (4, 7), (3, 9), (4, 9), (3, 10), (4, 10), (3, 11), (4, 11), (3, 15), (4, 15), (7, 15), (9, 15), (10, 15), (11, 15), (12, 15), (3, 17), (4, 17), (7, 17), (9, 17), (10, 17), (11, 17), (12, 17), (3, 18), (4, 18), (7, 18), (9, 18), (10, 18), (11, 18), (12, 18), (3, 19), (4, 19), (7, 19), (9, 19), (10, 19), (11, 19), (12, 19), (3, 23), (4, 23), (7, 23), (9, 23), (10, 23), (11, 23), (12, 23), (15, 23), (17, 23), (18, 23), (19, 23), (20, 23), (3, 25), (4, 25), (7, 25), (9, 25), (10, 25), (11, 25), (12, 25), (15, 25), (17, 25), (18, 25), (19, 25), (20, 25), (3, 26), (4, 26), (7, 26), (9, 26), (10, 26), (11, 26), (12, 26), (15, 26), (17, 26), (18, 26), (19, 26), (20, 26), (3, 27), (4, 27), (7, 27), (9, 27), (10, 27), (11, 27), (12, 27), (15, 27), (17, 27), (18, 27), (19, 27), (20, 27)])
.ret)), [.tmp (pth 4)]⟩
theorem cf62_ok : cFn Tryd.prog 62 = some (cf62 Tryd.prog) := by kernel_rfl
def cf63 (P : Program) : FF := ⟨5, (.seq (.seqr [⟨(.mv (.val (.slice none 0 0))), opAt P 63 0 0, (some (pth 2)), none⟩])
(.seq (.seqr [⟨(.mv (.tmp (pth 0))), opAt P 63 1 0, (some (pth 3)), none⟩,
⟨(.call 66 [(.val (.slice none 0 0)), (.tmp (pth 3))]), opAt P 63 1 1, (some (pth 4)), none⟩,
⟨(.mv (.tmp (pth 4))), opAt P 63 1 2, (some (pth 2)), none⟩])
.ret)), [.tmp (pth 2)]⟩
theorem cf63_ok : cFn Tryd.prog 63 = some (cf63 Tryd.prog) := by kernel_rfl
def cf64 (P : Program) : FF := ⟨11, (.seq (.seqr [⟨(.mv (.tmp (pth 0))), opAt P 64 0 0, (some (pth 3)), none⟩,
⟨.slow, opAt P 64 0 1, (some (pth 4)), none⟩,
⟨(.mv (.tmp (pth 4))), opAt P 64 0 2, (some (pth 2)), none⟩])
(.seqr [⟨(.mv (.tmp (pth 0))), opAt P 64 1 0, (some (pth 5)), none⟩,
⟨(.mv (.tmp (pth 2))), opAt P 64 1 1, (some (pth 6)), none⟩,
⟨(.mv (.tmp (pth 2))), opAt P 64 1 2, (some (pth 7)), none⟩,
⟨.slow, opAt P 64 1 3, (some (pth 8)), none⟩,
⟨(.call 68 [(.tmp (pth 8))]), opAt P 64 1 4, (some (pth 9)), none⟩,
⟨(.call 67 [(.tmp (pth 5)), (.val (.int .i64 (0))), (.tmp (pth 6)), (.tmp (pth 9))]), opAt P 64 1 5, (some (pth 10)), none⟩])), []⟩
theorem cf64_ok : cFn Tryd.prog 64 = some (cf64 Tryd.prog) := by kernel_rfl
def cf65 (P : Program) : FF := ⟨14, (.seq (.seqr [⟨(.ld 62 (.tmp (pth 1))), opAt P 65 0 0, (some (pth 4)), none⟩,
⟨.slow, opAt P 65 0 1, (some (pth 5)), none⟩])
(.block 0 (.loop (.seq (.seqr [⟨.slow, opAt P 65 1 0, (some (pth 6)), none⟩,
⟨(.ext (.tmp (pth 6)) 0), opAt P 65 1 1, (some (pth 7)), none⟩])
(.seq (.cond (.tmp (pth 7)) .skip
(.exit 0))
(.block 1 (.seq (.seqr [⟨.slow, opAt P 65 2 0, (some (pth 8)), none⟩,
⟨(.ext (.tmp (pth 8)) 0), opAt P 65 2 1, (some (pth 9)), none⟩,
⟨(.mv (.tmp (pth 9))), opAt P 65 2 2, (some (pth 3)), none⟩])
(.seq (.seqr [⟨(.mv (.tmp (pth 0))), opAt P 65 3 0, (some (pth 10)), none⟩,
⟨(.mv (.tmp (pth 3))), opAt P 65 3 1, (some (pth 11)), none⟩,
⟨.slow, opAt P 65 3 2, (some (pth 12)), none⟩,
⟨(.un .not (.tmp (pth 12))), opAt P 65 3 3, (some (pth 13)), none⟩])
(.cond (.tmp (pth 13)) .ret
.skip))))))))), []⟩
theorem cf65_ok : cFn Tryd.prog 65 = some (cf65 Tryd.prog) := by kernel_rfl
def cf66 (P : Program) : FF := ⟨13, (.seq (.seqr [⟨.slow, opAt P 66 0 0, (some (pth 2)), none⟩,
⟨(.mv (.val (.slice none 0 0))), opAt P 66 0 1, (some (pth 4)), none⟩])
(.seq (.seq (.seqr [⟨(.mv (.tmp (pth 1))), opAt P 66 1 0, (some (pth 6)), none⟩])
(.block 0 .bad))
(.seq (.seqr [⟨(.ld 68 (.tmp (pth 2))), opAt P 66 2 0, (some (pth 12)), none⟩,
⟨(.mv (.tmp (pth 12))), opAt P 66 2 1, (some (pth 4)), none⟩])
.ret))), [.tmp (pth 4)]⟩
theorem cf66_ok : cFn Tryd.prog 66 = some (cf66 Tryd.prog) := by kernel_rfl
def cf67 (P : Program) : FF := ⟨134, (.seq (.seqr [⟨(.mv (.val (.bool true))), opAt P 67 0 0, (some (pth 8)), none⟩])
(.seq (.seqr [⟨(.mv (.val (.bool true))), opAt P 67 1 0, (some (pth 9)), none⟩])
(.block 0 (.loop (.block 1 (.seq (.seqr [⟨(.mv (.tmp (pth 2))), opAt P 67 2 0, (some (pth 19)), none⟩,
⟨(.mv (.tmp (pth 1))), opAt P 67 2 1, (some (pth 20)), none⟩,
⟨(.bin .sub (.tmp (pth 19)) (.tmp (pth 20))), opAt P 67 2 2, (some (pth 21)), none⟩,
⟨(.mv (.tmp (pth 21))), opAt P 67 2 3, (some (pth 10)), none⟩])
(.seq (.seq (.seqr [⟨(.mv (.tmp (pth 10))), opAt P 67 3 0, (some (pth 22)), none⟩,
⟨(.bin .leq (.tmp (pth 22)) (.val (.int .i64 (12)))), opAt P 67 3 1, (some (pth 23)), none⟩])
(.cond (.tmp (pth 23)) (.seq (.seqr [⟨(.mv (.tmp (pth 0))), opAt P 67 4 0, (some (pth 24)), none⟩,
⟨(.mv (.tmp (pth 1))), opAt P 67 4 1, (some (pth 25)), none⟩,
⟨(.mv (.tmp (pth 2))), opAt P 67 4 2, (some (pth 26)), none⟩,
⟨(.call 69 [(.tmp (pth 24)), (.tmp (pth 25)), (.tmp (pth 26))]), opAt P 67 4 3, (some (pth 27)), none⟩])
.ret)
.skip))
(.seq (.seq (.seqr [⟨(.mv (.tmp (pth 3))), opAt P 67 5 0, (some (pth 28)), none⟩,
⟨(.bin .eql (.tmp (pth 28)) (.val (.int .i64 (0)))), opAt P 67 5 1, (some (pth 29)), none⟩])
(.cond (.tmp (pth 29)) (.seq (.seqr [⟨(.mv (.tmp (pth 0))), opAt P 67 6 0, (some (pth 30)), none⟩,
⟨(.mv (.tmp (pth 1))), opAt P 67 6 1, (some (pth 31)), none⟩,
⟨(.mv (.tmp (pth 2))), opAt P 67 6 2, (some (pth 32)), none⟩,
⟨(.call 70 [(.tmp (pth 30)), (.tmp (pth 31)), (.tmp (pth 32))]), opAt P 67 6 3, (some (pth 33)), none⟩])
.ret)
.skip))
(.seq (.seq (.seqr [⟨(.mv (.tmp (pth 8))), opAt P 67 7 0, (some (pth 34)), none⟩,
⟨(.un .not (.tmp (pth 34))), opAt P 67 7 1, (some (pth 35)), none⟩])
(.cond (.tmp (pth 35)) (.seq (.seqr [⟨(.mv (.tmp (pth 0))), opAt P 67 8 0, (some (pth 36)), none⟩,
⟨(.mv (.tmp (pth 1))), opAt P 67 8 1, (some (pth 37)), none⟩,
⟨(.mv (.tmp (pth 2))), opAt P 67 8 2, (some (pth 38)), none⟩,
⟨(.call 71 [(.tmp (pth 36)), (.tmp (pth 37)), (.tmp (pth 38))]), opAt P 67 8 3, (some (pth 39)), none⟩])
(.seqr [⟨(.mv (.tmp (pth 3))), opAt P 67 9 0, (some (pth 40)), none⟩,
⟨(.bin .sub (.tmp (pth 40)) (.val (.int .i64 (1)))), opAt P 67 9 1, (some (pth 41)), none⟩,
⟨(.mv (.tmp (pth 41))), opAt P 67 9 2, (some (pth 3)), none⟩]))
.skip))
(.seq (.seqr [⟨(.mv (.tmp (pth 0))), opAt P 67 10 0, (some (pth 43)), none⟩,
⟨(.mv (.tmp (pth 1))), opAt P 67 10 1, (some (pth 44)), none⟩,
⟨(.mv (.tmp (pth 2))), opAt P 67 10 2, (some (pth 45)), none⟩,
⟨(.call 72 [(.tmp (pth 43)), (.tmp (pth 44)), (.tmp (pth 45))]), opAt P 67 10 3, (some (pth 46)), none⟩,
⟨(.mv (.tmp (pth 46))), opAt P 67 10 4, (some (pth 42)), none⟩,
⟨(.ext (.tmp (pth 42)) 0), opAt P 67 10 5, (some (pth 47)), none⟩,
⟨(.ext (.tmp (pth 42)) 1), opAt P 67 10 6, (some (pth 48)), none⟩,
⟨(.mv (.tmp (pth 47))), opAt P 67 10 7, (some (pth 11)), none⟩,
⟨(.mv (.tmp (pth 48))), opAt P 67 10 8, (some (pth 12)), none⟩])
(.seq (.seq (.seqr [⟨(.mv (.tmp (pth 12))), opAt P 67 11 0, (some (pth 49)), none⟩,
⟨(.bin .eql (.tmp (pth 49)) (.val (.int .i64 (2)))), opAt P 67 11 1, (some (pth 50)), none⟩])
(.cond (.tmp (pth 50)) (.seq (.seqr [⟨(.mv (.tmp (pth 0))), opAt P 67 12 0, (some (pth 51)), none⟩,
⟨(.mv (.tmp (pth 1))), opAt P 67 12 1, (some (pth 52)), none⟩,
⟨(.mv (.tmp (pth 2))), opAt P 67 12 2, (some (pth 53)), none⟩,
⟨(.call 73 [(.tmp (pth 51)), (.tmp (pth 52)), (.tmp (pth 53))]), opAt P 67 12 3, (some (pth 54)), none⟩])
(.seq (.seqr [⟨(.mv (.tmp (pth 2))), opAt P 67 13 0, (some (pth 55)), none⟩,
⟨(.bin .sub (.tmp (pth 55)) (.val (.int .i64 (1)))), opAt P 67 13 1, (some (pth 56)), none⟩,
⟨(.mv (.tmp (pth 11))), opAt P 67 13 2, (some (pth 57)), none⟩,
⟨(.mv (.tmp (pth 1))), opAt P 67 13 3, (some (pth 58)), none⟩,
⟨(.bin .sub (.tmp (pth 57)) (.tmp (pth 58))), opAt P 67 13 4, (some (pth 59)), none⟩,
⟨(.bin .sub (.tmp (pth 56)) (.tmp (pth 59))), opAt P 67 13 5, (some (pth 60)), none⟩,
⟨(.mv (.tmp (pth 60))), opAt P 67 13 6, (some (pth 11)), none⟩])
(.seqr [⟨(.mv (.val (.int .i64 (1)))), opAt P 67 14 0, (some (pth 12)), none⟩])))
.skip))
(.seq (.seq (.seqr [⟨(.mv (.tmp (pth 8))), opAt P 67 15 0, (some (pth 61)), none⟩,
⟨(.mv (.tmp (pth 61))), opAt P 67 15 1, (some (pth 62)), none⟩,
⟨(.mv (.tmp (pth 9))), opAt P 67 15 2, (some (pth 63)), (some ((pth 62), true))⟩,
⟨(.pick (.tmp (pth 62)) (.tmp (pth 63)) (.val (.bool false))), opAt P 67 15 3, (some (pth 64)), none⟩,
⟨(.mv (.tmp (pth 64))), opAt P 67 15 4, (some (pth 65)), none⟩,
⟨(.mv (.tmp (pth 12))), opAt P 67 15 5, (some (pth 66)), (some ((pth 65), true))⟩,
⟨(.bin .eql (.tmp (pth 66)) (.val (.int .i64 (1)))), opAt P 67 15 6, (some (pth 67)), (some ((pth 65), true))⟩,
⟨(.pick (.tmp (pth 65)) (.tmp (pth 67)) (.val (.bool false))), opAt P 67 15 7, (some (pth 68)), none⟩])
(.cond (.tmp (pth 68)) (.seq (.seqr [⟨(.mv (.tmp (pth 0))), opAt P 67 16 0, (some (pth 69)), none⟩,
⟨(.mv (.tmp (pth 1))), opAt P 67 16 1, (some (pth 70)), none⟩,
⟨(.mv (.tmp (pth 2))), opAt P 67 16 2, (some (pth 71)), none⟩,
⟨(.call 74 [(.tmp (pth 69)), (.tmp (pth 70)), (.tmp (pth 71))]), opAt P 67 16 3, (some (pth 72)), none⟩])
(.cond (.tmp (pth 72)) .ret
.skip))
.skip))
(.seq (.seq (.reg [⟨(.mv (.tmp (pth 1))), opAt P 67 17 0, (some (pth 73)), none⟩,
⟨(.bin .gtr (.tmp (pth 73)) (.val (.int .i64 (0)))), opAt P 67 17 1, (some (pth 74)), none⟩,
⟨(.mv (.tmp (pth 74))), opAt P 67 17 2, (some (pth 75)), none⟩,
⟨(.mv (.tmp (pth 0))), opAt P 67 17 3, (some (pth 76)), (some ((pth 75), true))⟩,
⟨(.mv (.tmp (pth 1))), opAt P 67 17 4, (some (pth 77)), (some ((pth 75), true))⟩,
⟨(.bin .sub (.tmp (pth 77)) (.val (.int .i64 (1)))), opAt P 67 17 5, (some (pth 78)), (some ((pth 75), true))⟩,
⟨(.ia (.tmp (pth 76)) (.tmp (pth 78)) 1), opAt P 67 17 6, (some (pth 79)), (some ((pth 75), true))⟩,
⟨(.ld 9 (.tmp (pth 79))), opAt P 67 17 7, (some (pth 80)), (some ((pth 75), true))⟩,
⟨(.mv (.tmp (pth 0))), opAt P 67 17 8, (some (pth 81)), (some ((pth 75), true))⟩,
⟨(.mv (.tmp (pth 11))), opAt P 67 17 9, (some (pth 82)), (some ((pth 75), true))⟩,
⟨(.ia (.tmp (pth 81)) (.tmp (pth 82)) 1), opAt P 67 17 10, (some (pth 83)), (some ((pth 75), true))⟩,
⟨(.ld 9 (.tmp (pth 83))), opAt P 67 17 11, (some (pth 84)), (some ((pth 75), true))⟩,
⟨(.call 75 [(.tmp (pth 80)), (.tmp (pth 84))]), opAt P 67 17 12, (some (pth 85)), (some ((pth 75), true))⟩,
⟨(.un .not (.tmp (pth 85))), opAt P 67 17 13, (some (pth 86)), (some ((pth 75), true))⟩,
⟨(.pick (.tmp (pth 75)) (.tmp (pth 86)) (.val (.bool false))), opAt P 67 17 14, (some (pth 87)), none⟩] [(5, 11), (7, 11)])
(.cond (.tmp (pth 87)) (.seq (.seqr [⟨(.mv (.tmp (pth 0))), opAt P 67 18 0, (some (pth 88)), none⟩,
⟨(.mv (.tmp (pth 1))), opAt P 67 18 1, (some (pth 89)), none⟩,
⟨(.mv (.tmp (pth 2))), opAt P 67 18 2, (some (pth 90)), none⟩,
⟨(.mv (.tmp (pth 11))), opAt P 67 18 3, (some (pth 91)), none⟩,
⟨(.call 76 [(.tmp (pth 88)), (.tmp (pth 89)), (.tmp (pth 90)), (.tmp (pth 91))]), opAt P 67 18 4, (some (pth 92)), none⟩,
⟨(.mv (.tmp (pth 92))), opAt P 67 18 5, (some (pth 13)), none⟩])
(.seq (.seqr [⟨(.mv (.tmp (pth 13))), opAt P 67 19 0, (some (pth 93)), none⟩,
⟨(.mv (.tmp (pth 93))), opAt P 67 19 1, (some (pth 1)), none⟩])
(.exit 1)))
.skip))
(.seq (.seqr [⟨(.mv (.tmp (pth 0))), opAt P 67 20 0, (some (pth 95)), none⟩,
⟨(.mv (.tmp (pth 1))), opAt P 67 20 1, (some (pth 96)), none⟩,
⟨(.mv (.tmp (pth 2))), opAt P 67 20 2, (some (pth 97)), none⟩,
⟨(.mv (.tmp (pth 11))), opAt P 67 20 3, (some (pth 98)), none⟩,
⟨(.call 77 [(.tmp (pth 95)), (.tmp (pth 96)), (.tmp (pth 97)), (.tmp (pth 98))]), opAt P 67 20 4, (some (pth 99)), none⟩,
⟨(.mv (.tmp (pth 99))), opAt P 67 20 5, (some (pth 94)), none⟩,
⟨(.ext (.tmp (pth 94)) 0), opAt P 67 20 6, (some (pth 100)), none⟩,
⟨(.ext (.tmp (pth 94)) 1), opAt P 67 20 7, (some (pth 101)), none⟩,
⟨(.mv (.tmp (pth 100))), opAt P 67 20 8, (some (pth 14)), none⟩,
⟨(.mv (.tmp (pth 101))), opAt P 67 20 9, (some (pth 15)), none⟩])
(.seq (.seqr [⟨(.mv (.tmp (pth 15))), opAt P 67 21 0, (some (pth 102)), none⟩,
⟨(.mv (.tmp (pth 102))), opAt P 67 21 1, (some (pth 9)), none⟩])
(.seq (.seqr [⟨(.mv (.tmp (pth 14))), opAt P 67 22 0, (some (pth 103)), none⟩,
⟨(.mv (.tmp (pth 1))), opAt P 67 22 1, (some (pth 104)), none⟩,
⟨(.bin .sub (.tmp (pth 103)) (.tmp (pth 104))), opAt P 67 22 2, (some (pth 105)), none⟩,
⟨(.mv (.tmp (pth 2))), opAt P 67 22 3, (some (pth 106)), none⟩,
⟨(.mv (.tmp (pth 14))), opAt P 67 22 4, (some (pth 107)), none⟩,
⟨(.bin .sub (.tmp (pth 106)) (.tmp (pth 107))), opAt P 67 22 5, (some (pth 108)), none⟩,
⟨(.mv (.tmp (pth 105))), opAt P 67 22 6, (some (pth 16)), none⟩,
⟨(.mv (.tmp (pth 108))), opAt P 67 22 7, (some (pth 17)), none⟩])
(.seq (.seqr [⟨(.mv (.tmp (pth 10))), opAt P 67 23 0, (some (pth 109)), none⟩,
⟨(.bin .quo (.tmp (pth 109)) (.val (.int .i64 (8)))), opAt P 67 23 1, (some (pth 110)), none⟩,
⟨(.mv (.tmp (pth 110))), opAt P 67 23 2, (some (pth 18)), none⟩])
(.seq (.seqr [⟨(.mv (.tmp (pth 16))), opAt P 67 24 0, (some (pth 111)), none⟩,
⟨(.mv (.tmp (pth 17))), opAt P 67 24 1, (some (pth 112)), none⟩,
⟨(.bin .lss (.tmp (pth 111)) (.tmp (pth 112))), opAt P 67 24 2, (some (pth 113)), none⟩])
(.cond (.tmp (pth 113)) (.seq (.seqr [⟨(.mv (.tmp (pth 16))), opAt P 67 25 0, (some (pth 114)), none⟩,
⟨(.mv (.tmp (pth 18))), opAt P 67 25 1, (some (pth 115)), none⟩,
⟨(.bin .geq (.tmp (pth 114)) (.tmp (pth 115))), opAt P 67 25 2, (some (pth 116)), none⟩,
⟨(.mv (.tmp (pth 116))), opAt P 67 25 3, (some (pth 8)), none⟩])
(.seq (.seqr [⟨(.mv (.tmp (pth 0))), opAt P 67 26 0, (some (pth 117)), none⟩,
⟨(.mv (.tmp (pth 1))), opAt P 67 26 1, (some (pth 118)), none⟩,
⟨(.mv (.tmp (pth 14))), opAt P 67 26 2, (some (pth 119)), none⟩,
⟨(.mv (.tmp (pth 3))), opAt P 67 26 3, (some (pth 120)), none⟩,
⟨(.call 67 [(.tmp (pth 117)), (.tmp (pth 118)), (.tmp (pth 119)), (.tmp (pth 120))]), opAt P 67 26 4, (some (pth 121)), none⟩])
(.seqr [⟨(.mv (.tmp (pth 14))), opAt P 67 27 0, (some (pth 122)), none⟩,
⟨(.bin .add (.tmp (pth 122)) (.val (.int .i64 (1)))), opAt P 67 27 1, (some (pth 123)), none⟩,
⟨(.mv (.tmp (pth 123))), opAt P 67 27 2, (some (pth 1)), none⟩])))
(.seq (.seqr [⟨(.mv (.tmp (pth 17))), opAt P 67 28 0, (some (pth 124)), none⟩,
⟨(.mv (.tmp (pth 18))), opAt P 67 28 1, (some (pth 125)), none⟩,
⟨(.bin .geq (.tmp (pth 124)) (.tmp (pth 125))), opAt P 67 28 2, (some (pth 126)), none⟩,
⟨(.mv (.tmp (pth 126))), opAt P 67 28 3, (some (pth 8)), none⟩])
(.seq (.seqr [⟨(.mv (.tmp (pth 0))), opAt P 67 29 0, (some (pth 127)), none⟩,
⟨(.mv (.tmp (pth 14))), opAt P 67 29 1, (some (pth 128)), none⟩,
⟨(.bin .add (.tmp (pth 128)) (.val (.int .i64 (1)))), opAt P 67 29 2, (some (pth 129)), none⟩,
⟨(.mv (.tmp (pth 2))), opAt P 67 29 3, (some (pth 130)), none⟩,
⟨(.mv (.tmp (pth 3))), opAt P 67 29 4, (some (pth 131)), none⟩,
⟨(.call 67 [(.tmp (pth 127)), (.tmp (pth 129)), (.tmp (pth 130)), (.tmp (pth 131))]), opAt P 67 29 5, (some (pth 132)), none⟩])
(.seqr [⟨(.mv (.tmp (pth 14))), opAt P 67 30 0, (some (pth 133)), none⟩,
⟨(.mv (.tmp (pth 133))), opAt P 67 30 1, (some (pth 2)), none⟩])))))))))))))))))))))), []⟩
theorem cf67_ok : cFn Tryd.prog 67 = some (cf67 Tryd.prog) := by kernel_rfl
def cf68 (P : Program) : FF := ⟨8, (.seq (.seqr [⟨(.mv (.val (.int .i64 (0)))), opAt P 68 0 0, (some (pth 2)), none⟩])
(.seq (.cond (.val (.bool false)) (.seq (.seqr [⟨(.mv (.tmp (pth 0))), opAt P 68 1 0, (some (pth 3)), none⟩,
⟨.slow, opAt P 68 1 1, (some (pth 4)), none⟩,
⟨(.call 78 [(.tmp (pth 4))]), opAt P 68 1 2, (some (pth 5)), none⟩,
⟨(.mv (.tmp (pth 5))), opAt P 68 1 3, (some (pth 2)), none⟩])
.ret)
.skip)
(.seq (.seqr [⟨(.mv (.tmp (pth 0))), opAt P 68 2 0, (some (pth 6)), none⟩,
⟨(.call 79 [(.tmp (pth 6))]), opAt P 68 2 1, (some (pth 7)), none⟩,
⟨(.mv (.tmp (pth 7))), opAt P 68 2 2, (some (pth 2)), none⟩])
.ret))), [.tmp (pth 2)]⟩
theorem cf68_ok : cFn Tryd.prog 68 = some (cf68 Tryd.prog) := by kernel_rfl
def cf69 (P : Program) : FF := ⟨49, (.seq (.seqr [⟨(.mv (.tmp (pth 1))), opAt P 69 0 0, (some (pth 8)), none⟩,
⟨(.bin .add (.tmp (pth 8)) (.val (.int .i64 (1)))), opAt P 69 0 1, (some (pth 9)), none⟩,
⟨(.mv (.tmp (pth 9))), opAt P 69 0 2, (some (pth 6)), none⟩])
(.block 0 (.loop (.seq (.seq (.seqr [⟨(.mv (.tmp (pth 6))), opAt P 69 1 0, (some (pth 10)), none⟩,
⟨(.mv (.tmp (pth 2))), opAt P 69 1 1, (some (pth 11)), none⟩,
⟨(.bin .lss (.tmp (pth 10)) (.tmp (pth 11))), opAt P 69 1 2, (some (pth 12)), none⟩])
(.cond (.tmp (pth 12)) .skip
(.exit 0)))
(.seq (.block 1 (.seq (.seqr [⟨(.mv (.tmp (pth 6))), opAt P 69 2 0, (some (pth 15)), none⟩,
⟨(.mv (.tmp (pth 15))), opAt P 69 2 1, (some (pth 7)), none⟩])
(.block 2 (.loop (.seq (.seq (.reg [⟨(.mv (.tmp (pth 7))), opAt P 69 3 0, (some (pth 16)), none⟩,
⟨(.mv (.tmp (pth 1))), opAt P 69 3 1, (some (pth 17)), none⟩,
⟨(.bin .gtr (.tmp (pth 16)) (.tmp (pth 17))), opAt P 69 3 2, (some (pth 18)), none⟩,
⟨(.mv (.tmp (pth 18))), opAt P 69 3 3, (some (pth 19)), none⟩,
⟨(.mv (.tmp (pth 0))), opAt P 69 3 4, (some (pth 20)), (some ((pth 19), true))⟩,
⟨(.mv (.tmp (pth 7))), opAt P 69 3 5, (some (pth 21)), (some ((pth 19), true))⟩,
⟨(.ia (.tmp (pth 20)) (.tmp (pth 21)) 1), opAt P 69 3 6, (some (pth 22)), (some ((pth 19), true))⟩,
⟨(.ld 9 (.tmp (pth 22))), opAt P 69 3 7, (some (pth 23)), (some ((pth 19), true))⟩,
⟨(.mv (.tmp (pth 0))), opAt P 69 3 8, (some (pth 24)), (some ((pth 19), true))⟩,
⟨(.mv (.tmp (pth 7))), opAt P 69 3 9, (some (pth 25)), (some ((pth 19), true))⟩,
⟨(.bin .sub (.tmp (pth 25)) (.val (.int .i64 (1)))), opAt P 69 3 10, (some (pth 26)), (some ((pth 19), true))⟩,
⟨(.ia (.tmp (pth 24)) (.tmp (pth 26)) 1), opAt P 69 3 11, (some (pth 27)), (some ((pth 19), true))⟩,
⟨(.ld 9 (.tmp (pth 27))), opAt P 69 3 12, (some (pth 28)), (some ((pth 19), true))⟩,
⟨(.call 75 [(.tmp (pth 23)), (.tmp (pth 28))]), opAt P 69 3 13, (some (pth 29)), (some ((pth 19), true))⟩,
⟨(.pick (.tmp (pth 19)) (.tmp (pth 29)) (.val (.bool false))), opAt P 69 3 14, (some (pth 30)), none⟩] [(7, 10), (7, 12)])
(.cond (.tmp (pth 30)) .skip
(.exit 2)))
(.seq (.block 3 (.reg [⟨(.mv (.tmp (pth 0))), opAt P 69 4 0, (some (pth 33)), none⟩,
⟨(.mv (.tmp (pth 7))), opAt P 69 4 1, (some (pth 34)), none⟩,
⟨(.mv (.tmp (pth 0))), opAt P 69 4 2, (some (pth 35)), none⟩,
⟨(.mv (.tmp (pth 7))), opAt P 69 4 3, (some (pth 36)), none⟩,
⟨(.bin .sub (.tmp (pth 36)) (.val (.int .i64 (1)))), opAt P 69 4 4, (some (pth 37)), none⟩,
⟨(.mv (.tmp (pth 0))), opAt P 69 4 5, (some (pth 38)), none⟩,
⟨(.mv (.tmp (pth 7))), opAt P 69 4 6, (some (pth 39)), none⟩,
⟨(.bin .sub (.tmp (pth 39)) (.val (.int .i64 (1)))), opAt P 69 4 7, (some (pth 40)), none⟩,
⟨(.ia (.tmp (pth 38)) (.tmp (pth 40)) 1), opAt P 69 4 8, (some (pth 41)), none⟩,
⟨(.ld 9 (.tmp (pth 41))), opAt P 69 4 9, (some (pth 42)), none⟩,
⟨(.mv (.tmp (pth 0))), opAt P 69 4 10, (some (pth 43)), none⟩,
⟨(.mv (.tmp (pth 7))), opAt P 69 4 11, (some (pth 44)), none⟩,
⟨(.ia (.tmp (pth 43)) (.tmp (pth 44)) 1), opAt P 69 4 12, (some (pth 45)), none⟩,
⟨(.ld 9 (.tmp (pth 45))), opAt P 69 4 13, (some (pth 46)), none⟩,
⟨(.ia (.tmp (pth 33)) (.tmp (pth 34)) 1), opAt P 69 4 14, (some (pth 47)), none⟩,
⟨(.st 9 (.tmp (pth 47)) (.tmp (pth 42))), opAt P 69 4 15, none, none⟩,
⟨(.ia (.tmp (pth 35)) (.tmp (pth 37)) 1), opAt P 69 4 16, (some (pth 48)), none⟩,
⟨(.st 9 (.tmp (pth 48)) (.tmp (pth 46))), opAt P 69 4 17, none, none⟩] [(4, 7), (4, 9), (4, 13), (7, 13), (9, 13), (4, 15)]))
(.seqr [⟨(.mv (.tmp (pth 7))), opAt P 69 5 0, (some (pth 31)), none⟩,
⟨(.bin .sub (.tmp (pth 31)) (.val (.int .i64 (1)))), opAt P 69 5 1, (some (pth 32)), none⟩,
⟨(.mv (.tmp (pth 32))), opAt P 69 5 2, (some (pth 7)), none⟩])))))))
(.seqr [⟨(.mv (.tmp (pth 6))), opAt P 69 6 0, (some (pth 13)), none⟩,
⟨(.bin .add (.tmp (pth 13)) (.val (.int .i64 (1)))), opAt P 69 6 1, (some (pth 14)), none⟩,
⟨(.mv (.tmp (pth 14))), opAt P 69 6 2, (some (pth 6)), none⟩])))))), []⟩
theorem cf69_ok : cFn Tryd.prog 69 = some (cf69 Tryd.prog) := by kernel_rfl
def cf70 (P : Program) : FF := ⟨56, (.seq (.seqr [⟨(.mv (.tmp (pth 1))), opAt P 70 0 0, (some (pth 11)), none⟩,
⟨(.mv (.tmp (pth 11))), opAt P 70 0 1, (some (pth 6)), none⟩])
(.seq (.seqr [⟨(.mv (.val (.int .i64 (0)))), opAt P 70 1 0, (some (pth 7)), none⟩])
(.seq (.seqr [⟨(.mv (.tmp (pth 2))), opAt P 70 2 0, (some (pth 12)), none⟩,
⟨(.mv (.tmp (pth 1))), opAt P 70 2 1, (some (pth 13)), none⟩,
⟨(.bin .sub (.tmp (pth 12)) (.tmp (pth 13))), opAt P 70 2 2, (some (pth 14)), none⟩,
⟨(.mv (.tmp (pth 14))), opAt P 70 2 3, (some (pth 8)), none⟩])
(.seq (.seq (.seqr [⟨(.mv (.tmp (pth 8))), opAt P 70 3 0, (some (pth 15)), none⟩,
⟨(.bin .sub (.tmp (pth 15)) (.val (.int .i64 (1)))), opAt P 70 3 1, (some (pth 16)), none⟩,
⟨(.bin .quo (.tmp (pth 16)) (.val (.int .i64 (2)))), opAt P 70 3 2, (some (pth 17)), none⟩,
⟨(.mv (.tmp (pth 17))), opAt P 70 3 3, (some (pth 9)), none⟩])
(.block 0 (.loop (.seq (.seq (.seqr [⟨(.mv (.tmp (pth 9))), opAt P 70 4 0, (some (pth 18)), none⟩,
⟨(.bin .geq (.tmp (pth 18)) (.val (.int .i64 (0)))), opAt P 70 4 1, (some (pth 19)), none⟩])
(.cond (.tmp (pth 19)) .skip
(.exit 0)))
(.seq (.block 1 (.seqr [⟨(.mv (.tmp (pth 0))), opAt P 70 5 0, (some (pth 22)), none⟩,
⟨(.mv (.tmp (pth 9))), opAt P 70 5 1, (some (pth 23)), none⟩,
⟨(.mv (.tmp (pth 8))), opAt P 70 5 2, (some (pth 24)), none⟩,
⟨(.mv (.tmp (pth 6))), opAt P 70 5 3, (some (pth 25)), none⟩,
⟨(.call 80 [(.tmp (pth 22)), (.tmp (pth 23)), (.tmp (pth 24)), (.tmp (pth 25))]), opAt P 70 5 4, (some (pth 26)), none⟩]))
(.seqr [⟨(.mv (.tmp (pth 9))), opAt P 70 6 0, (some (pth 20)), none⟩,
⟨(.bin .sub (.tmp (pth 20)) (.val (.int .i64 (1)))), opAt P 70 6 1, (some (pth 21)), none⟩,
⟨(.mv (.tmp (pth 21))), opAt P 70 6 2, (some (pth 9)), none⟩]))))))
(.seq (.seqr [⟨(.mv (.tmp (pth 8))), opAt P 70 7 0, (some (pth 27)), none⟩,
⟨(.bin .sub (.tmp (pth 27)) (.val (.int .i64 (1)))), opAt P 70 7 1, (some (pth 28)), none⟩,
⟨(.mv (.tmp (pth 28))), opAt P 70 7 2, (some (pth 10)), none⟩])
(.block 2 (.loop (.seq (.seq (.seqr [⟨(.mv (.tmp (pth 10))), opAt P 70 8 0, (some (pth 29)), none⟩,
⟨(.bin .geq (.tmp (pth 29)) (.val (.int .i64 (0)))), opAt P 70 8 1, (some (pth 30)), none⟩])
(.cond (.tmp (pth 30)) .skip
(.exit 2)))
(.seq (.block 3 (.seq (.reg [⟨(.mv (.tmp (pth 0))), opAt P 70 9 0, (some (pth 33)), none⟩,
⟨(.mv (.tmp (pth 6))), opAt P 70 9 1, (some (pth 34)), none⟩,
⟨(.mv (.tmp (pth 0))), opAt P 70 9 2, (some (pth 35)), none⟩,
⟨(.mv (.tmp (pth 6))), opAt P 70 9 3, (some (pth 36)), none⟩,
⟨(.mv (.tmp (pth 10))), opAt P 70 9 4, (some (pth 37)), none⟩,
⟨(.bin .add (.tmp (pth 36)) (.tmp (pth 37))), opAt P 70 9 5, (some (pth 38)), none⟩,
⟨(.mv (.tmp (pth 0))), opAt P 70 9 6, (some (pth 39)), none⟩,
⟨(.mv (.tmp (pth 6))), opAt P 70 9 7, (some (pth 40)), none⟩,
⟨(.mv (.tmp (pth 10))), opAt P 70 9 8, (some (pth 41)), none⟩,
⟨(.bin .add (.tmp (pth 40)) (.tmp (pth 41))), opAt P 70 9 9, (some (pth 42)), none⟩,
⟨(.ia (.tmp (pth 39)) (.tmp (pth 42)) 1), opAt P 70 9 10, (some (pth 43)), none⟩,
⟨(.ld 9 (.tmp (pth 43))), opAt P 70 9 11, (some (pth 44)), none⟩,
⟨(.mv (.tmp (pth 0))), opAt P 70 9 12, (some (pth 45)), none⟩,
⟨(.mv (.tmp (pth 6))), opAt P 70 9 13, (some (pth 46)), none⟩,
⟨(.ia (.tmp (pth 45)) (.tmp (pth 46)) 1), opAt P 70 9 14, (some (pth 47)), none⟩,
⟨(.ld 9 (.tmp (pth 47))), opAt P 70 9 15, (some (pth 48)), none⟩,
⟨(.ia (.tmp (pth 33)) (.tmp (pth 34)) 1), opAt P 70 9 16, (some (pth 49)), none⟩,
⟨(.st 9 (.tmp (pth 49)) (.tmp (pth 44))), opAt P 70 9 17, none, none⟩,
⟨(.ia (.tmp (pth 35)) (.tmp (pth 38)) 1), opAt P 70 9 18, (some (pth 50)), none⟩,
⟨(.st 9 (.tmp (pth 50)) (.tmp (pth 48))), opAt P 70 9 19, none, none⟩] [(5, 9), (5, 11), (5, 15), (9, 15), (11, 15), (5, 17)])
(.seqr [⟨(.mv (.tmp (pth 0))), opAt P 70 10 0, (some (pth 51)), none⟩,
⟨(.mv (.tmp (pth 7))), opAt P 70 10 1, (some (pth 52)), none⟩,
⟨(.mv (.tmp (pth 10))), opAt P 70 10 2, (some (pth 53)), none⟩,
⟨(.mv (.tmp (pth 6))), opAt P 70 10 3, (some (pth 54)), none⟩,
⟨(.call 80 [(.tmp (pth 51)), (.tmp (pth 52)), (.tmp (pth 53)), (.tmp (pth 54))]), opAt P 70 10 4, (some (pth 55)), none⟩])))
(.seqr [⟨(.mv (.tmp (pth 10))), opAt P 70 11 0, (some (pth 31)), none⟩,
⟨(.bin .sub (.tmp (pth 31)) (.val (.int .i64 (1)))), opAt P 70 11 1, (some (pth 32)), none⟩,
⟨(.mv (.tmp (pth 32))), opAt P 70 11 2, (some (pth 10)), none⟩])))))))))), []⟩
theorem cf70_ok : cFn Tryd.prog 70 = some (cf70 Tryd.prog) := by kernel_rfl
def cf71 (P : Program) : FF := ⟨65, (.seq (.seqr [⟨(.mv (.tmp (pth 2))), opAt P 71 0 0, (some (pth 11)), none⟩,
⟨(.mv (.tmp (pth 1))), opAt P 71 0 1, (some (pth 12)), none⟩,
⟨(.bin .sub (.tmp (pth 11)) (.tmp (pth 12))), opAt P 71 0 2, (some (pth 13)), none⟩,
⟨(.mv (.tmp (pth 13))), opAt P 71 0 3, (some (pth 6)), none⟩])
(.seq (.seqr [⟨(.mv (.tmp (pth 6))), opAt P 71 1 0, (some (pth 14)), none⟩,
⟨(.bin .geq (.tmp (pth 14)) (.val (.int .i64 (8)))), opAt P 71 1 1, (some (pth 15)), none⟩])
(.cond (.tmp (pth 15)) (.seq (.seqr [⟨(.mv (.tmp (pth 6))), opAt P 71 2 0, (some (pth 16)), none⟩,
⟨.slow, opAt P 71 2 1, (some (pth 17)), none⟩,
⟨.slow, opAt P 71 2 2, (some (pth 7)), none⟩,
⟨(.st 121 (.tmp (pth 7)) (.tmp (pth 17))), opAt P 71 2 3, none, none⟩])
(.seq (.seqr [⟨(.mv (.tmp (pth 6))), opAt P 71 3 0, (some (pth 18)), none⟩,
⟨(.call 81 [(.tmp (pth 18))]), opAt P 71 3 1, (some (pth 19)), none⟩,
⟨(.mv (.tmp (pth 19))), opAt P 71 3 2, (some (pth 8)), none⟩])
(.seq (.seqr [⟨(.mv (.tmp (pth 1))), opAt P 71 4 0, (some (pth 20)), none⟩,
⟨(.mv (.tmp (pth 6))), opAt P 71 4 1, (some (pth 21)), none⟩,
⟨(.bin .quo (.tmp (pth 21)) (.val (.int .i64 (4)))), opAt P 71 4 2, (some (pth 22)), none⟩,
⟨(.bin .mul (.tmp (pth 22)) (.val (.int .i64 (2)))), opAt P 71 4 3, (some (pth 23)), none⟩,
⟨(.bin .add (.tmp (pth 20)) (.tmp (pth 23))), opAt P 71 4 4, (some (pth 24)), none⟩,
⟨(.bin .sub (.tmp (pth 24)) (.val (.int .i64 (1)))), opAt P 71 4 5, (some (pth 25)), none⟩,
⟨(.mv (.tmp (pth 25))), opAt P 71 4 6, (some (pth 9)), none⟩])
(.block 0 (.loop (.seq (.seq (.seqr [⟨(.mv (.tmp (pth 9))), opAt P 71 5 0, (some (pth 26)), none⟩,
⟨(.mv (.tmp (pth 1))), opAt P 71 5 1, (some (pth 27)), none⟩,
⟨(.mv (.tmp (pth 6))), opAt P 71 5 2, (some (pth 28)), none⟩,
⟨(.bin .quo (.tmp (pth 28)) (.val (.int .i64 (4)))), opAt P 71 5 3, (some (pth 29)), none⟩,
⟨(.bin .mul (.tmp (pth 29)) (.val (.int .i64 (2)))), opAt P 71 5 4, (some (pth 30)), none⟩,
⟨(.bin .add (.tmp (pth 27)) (.tmp (pth 30))), opAt P 71 5 5, (some (pth 31)), none⟩,
⟨(.bin .add (.tmp (pth 31)) (.val (.int .i64 (1)))), opAt P 71 5 6, (some (pth 32)), none⟩,
⟨(.bin .leq (.tmp (pth 26)) (.tmp (pth 32))), opAt P 71 5 7, (some (pth 33)), none⟩])
(.cond (.tmp (pth 33)) .skip
(.exit 0)))
(.seq (.block 1 (.seq (.seqr [⟨(.call 82 [(.tmp (pth 7))]), opAt P 71 6 0, (some (pth 36)), none⟩,
⟨(.mv (.tmp (pth 8))), opAt P 71 6 1, (some (pth 37)), none⟩,
⟨(.bin .sub (.tmp (pth 37)) (.val (.int .u64 (1)))), opAt P 71 6 2, (some (pth 38)), none⟩,
⟨(.bin .and (.tmp (pth 36)) (.tmp (pth 38))), opAt P 71 6 3, (some (pth 39)), none⟩,
⟨.slow, opAt P 71 6 4, (some (pth 40)), none⟩,
⟨(.mv (.tmp (pth 40))), opAt P 71 6 5, (some (pth 10)), none⟩])
(.seq (.seq (.seqr [⟨(.mv (.tmp (pth 10))), opAt P 71 7 0, (some (pth 41)), none⟩,
⟨(.mv (.tmp (pth 6))), opAt P 71 7 1, (some (pth 42)), none⟩,
⟨(.bin .geq (.tmp (pth 41)) (.tmp (pth 42))), opAt P 71 7 2, (some (pth 43)), none⟩])
(.cond (.tmp (pth 43)) (.seqr [⟨(.mv (.tmp (pth 10))), opAt P 71 8 0, (some (pth 44)), none⟩,
⟨(.mv (.tmp (pth 6))), opAt P 71 8 1, (some (pth 45)), none⟩,
⟨(.bin .sub (.tmp (pth 44)) (.tmp (pth 45))), opAt P 71 8 2, (some (pth 46)), none⟩,
⟨(.mv (.tmp (pth 46))), opAt P 71 8 3, (some (pth 10)), none⟩])
.skip))
(.reg [⟨(.mv (.tmp (pth 0))), opAt P 71 9 0, (some (pth 47)), none⟩,
⟨(.mv (.tmp (pth 9))), opAt P 71 9 1, (some (pth 48)), none⟩,
⟨(.mv (.tmp (pth 0))), opAt P 71 9 2, (some (pth 49)), none⟩,
⟨(.mv (.tmp (pth 1))), opAt P 71 9 3, (some (pth 50)), none⟩,
⟨(.mv (.tmp (pth 10))), opAt P 71 9 4, (some (pth 51)), none⟩,
⟨(.bin .add (.tmp (pth 50)) (.tmp (pth 51))), opAt P 71 9 5, (some (pth 52)), none⟩,
⟨(.mv (.tmp (pth 0))), opAt P 71 9 6, (some (pth 53)), none⟩,
⟨(.mv (.tmp (pth 1))), opAt P 71 9 7, (some (pth 54)), none⟩,
⟨(.mv (.tmp (pth 10))), opAt P 71 9 8, (some (pth 55)), none⟩,
⟨(.bin .add (.tmp (pth 54)) (.tmp (pth 55))), opAt P 71 9 9, (some (pth 56)), none⟩,
⟨(.ia (.tmp (pth 53)) (.tmp (pth 56)) 1), opAt P 71 9 10, (some (pth 57)), none⟩,
⟨(.ld 9 (.tmp (pth 57))), opAt P 71 9 11, (some (pth 58)), none⟩,
⟨(.mv (.tmp (pth 0))), opAt P 71 9 12, (some (pth 59)), none⟩,
⟨(.mv (.tmp (pth 9))), opAt P 71 9 13, (some (pth 60)), none⟩,
⟨(.ia (.tmp (pth 59)) (.tmp (pth 60)) 1), opAt P 71 9 14, (some (pth 61)), none⟩,
⟨(.ld 9 (.tmp (pth 61))), opAt P 71 9 15, (some (pth 62)), none⟩,
⟨(.ia (.tmp (pth 47)) (.tmp (pth 48)) 1), opAt P 71 9 16, (some (pth 63)), none⟩,
⟨(.st 9 (.tmp (pth 63)) (.tmp (pth 58))), opAt P 71 9 17, none, none⟩,
⟨(.ia (.tmp (pth 49)) (.tmp (pth 52)) 1), opAt P 71 9 18, (some (pth 64)), none⟩,
⟨(.st 9 (.tmp (pth 64)) (.tmp (pth 62))), opAt P 71 9 19, none, none⟩] [(5, 9), (5, 11), (5, 15), (9, 15), (11, 15), (5, 17)]))))
(.seqr [⟨(.mv (.tmp (pth 9))), opAt P 71 10 0, (some (pth 34)), none⟩,
⟨(.bin .add (.tmp (pth 34)) (.val (.int .i64 (1)))), opAt P 71 10 1, (some (pth 35)), none⟩,
⟨(.mv (.tmp (pth 35))), opAt P 71 10 2, (some (pth 9)), none⟩]))))))))
.skip))), []⟩
theorem cf71_ok : cFn Tryd.prog 71 = some (cf71 Tryd.prog) := by kernel_rfl
def cf72 (P : Program) : FF := ⟨57, (.seq (.seqr [⟨(.mv (.val (.int .i64 (0)))), opAt P 72 0 0, (some (pth 6)), none⟩,
⟨(.mv (.val (.int .i64 (0)))), opAt P 72 0 1, (some (pth 7)), none⟩])
(.seq (.seqr [⟨(.mv (.tmp (pth 2))), opAt P 72 1 0, (some (pth 13)), none⟩,
⟨(.mv (.tmp (pth 1))), opAt P 72 1 1, (some (pth 14)), none⟩,
⟨(.bin .sub (.tmp (pth 13)) (.tmp (pth 14))), opAt P 72 1 2, (some (pth 15)), none⟩,
⟨(.mv (.tmp (pth 15))), opAt P 72 1 3, (some (pth 8)), none⟩])
(.seq (.seqr [⟨.slow, opAt P 72 2 0, (some (pth 9)), none⟩])
(.seq (.seqr [⟨(.mv (.tmp (pth 1))), opAt P 72 3 0, (some (pth 16)), none⟩,
⟨(.mv (.tmp (pth 8))), opAt P 72 3 1, (some (pth 17)), none⟩,
⟨(.bin .quo (.tmp (pth 17)) (.val (.int .i64 (4)))), opAt P 72 3 2, (some (pth 18)), none⟩,
⟨(.bin .mul (.tmp (pth 18)) (.val (.int .i64 (1)))), opAt P 72 3 3, (some (pth 19)), none⟩,
⟨(.bin .add (.tmp (pth 16)) (.tmp (pth 19))), opAt P 72 3 4, (some (pth 20)), none⟩,
⟨(.mv (.tmp (pth 20))), opAt P 72 3 5, (some (pth 10)), none⟩])
(.seq (.seqr [⟨(.mv (.tmp (pth 1))), opAt P 72 4 0, (some (pth 21)), none⟩,
⟨(.mv (.tmp (pth 8))), opAt P 72 4 1, (some (pth 22)), none⟩,
⟨(.bin .quo (.tmp (pth 22)) (.val (.int .i64 (4)))), opAt P 72 4 2, (some (pth 23)), none⟩,
⟨(.bin .mul (.tmp (pth 23)) (.val (.int .i64 (2)))), opAt P 72 4 3, (some (pth 24)), none⟩,
⟨(.bin .add (.tmp (pth 21)) (.tmp (pth 24))), opAt P 72 4 4, (some (pth 25)), none⟩,
⟨(.mv (.tmp (pth 25))), opAt P 72 4 5, (some (pth 11)), none⟩])
(.seq (.seqr [⟨(.mv (.tmp (pth 1))), opAt P 72 5 0, (some (pth 26)), none⟩,
⟨(.mv (.tmp (pth 8))), opAt P 72 5 1, (some (pth 27)), none⟩,
⟨(.bin .quo (.tmp (pth 27)) (.val (.int .i64 (4)))), opAt P 72 5 2, (some (pth 28)), none⟩,
⟨(.bin .mul (.tmp (pth 28)) (.val (.int .i64 (3)))), opAt P 72 5 3, (some (pth 29)), none⟩,
⟨(.bin .add (.tmp (pth 26)) (.tmp (pth 29))), opAt P 72 5 4, (some (pth 30)), none⟩,
⟨(.mv (.tmp (pth 30))), opAt P 72 5 5, (some (pth 12)), none⟩])
(.seq (.seq (.seqr [⟨(.mv (.tmp (pth 8))), opAt P 72 6 0, (some (pth 31)), none⟩,
⟨(.bin .geq (.tmp (pth 31)) (.val (.int .i64 (8)))), opAt P 72 6 1, (some (pth 32)), none⟩])
(.cond (.tmp (pth 32)) (.seq (.seq (.seqr [⟨(.mv (.tmp (pth 8))), opAt P 72 7 0, (some (pth 33)), none⟩,
⟨(.bin .geq (.tmp (pth 33)) (.val (.int .i64 (50)))), opAt P 72 7 1, (some (pth 34)), none⟩])
(.cond (.tmp (pth 34)) (.seq (.seqr [⟨(.mv (.tmp (pth 0))), opAt P 72 8 0, (some (pth 35)), none⟩,
⟨(.mv (.tmp (pth 10))), opAt P 72 8 1, (some (pth 36)), none⟩,
⟨(.call 83 [(.tmp (pth 35)), (.tmp (pth 36)), (.tmp (pth 9))]), opAt P 72 8 2, (some (pth 37)), none⟩,
⟨(.mv (.tmp (pth 37))), opAt P 72 8 3, (some (pth 10)), none⟩])
(.seq (.seqr [⟨(.mv (.tmp (pth 0))), opAt P 72 9 0, (some (pth 38)), none⟩,
⟨(.mv (.tmp (pth 11))), opAt P 72 9 1, (some (pth 39)), none⟩,
⟨(.call 83 [(.tmp (pth 38)), (.tmp (pth 39)), (.tmp (pth 9))]), opAt P 72 9 2, (some (pth 40)), none⟩,
⟨(.mv (.tmp (pth 40))), opAt P 72 9 3, (some (pth 11)), none⟩])
(.seqr [⟨(.mv (.tmp (pth 0))), opAt P 72 10 0, (some (pth 41)), none⟩,
⟨(.mv (.tmp (pth 12))), opAt P 72 10 1, (some (pth 42)), none⟩,
⟨(.call 83 [(.tmp (pth 41)), (.tmp (pth 42)), (.tmp (pth 9))]), opAt P 72 10 2, (some (pth 43)), none⟩,
⟨(.mv (.tmp (pth 43))), opAt P 72 10 3, (some (pth 12)), none⟩])))
.skip))
(.seqr [⟨(.mv (.tmp (pth 0))), opAt P 72 11 0, (some (pth 44)), none⟩,
⟨(.mv (.tmp (pth 10))), opAt P 72 11 1, (some (pth 45)), none⟩,
⟨(.mv (.tmp (pth 11))), opAt P 72 11 2, (some (pth 46)), none⟩,
⟨(.mv (.tmp (pth 12))), opAt P 72 11 3, (some (pth 47)), none⟩,
⟨(.call 84 [(.tmp (pth 44)), (.tmp (pth 45)), (.tmp (pth 46)), (.tmp (pth 47)), (.tmp (pth 9))]), opAt P 72 11 4, (some (pth 48)), none⟩,
⟨(.mv (.tmp (pth 48))), opAt P 72 11 5, (some (pth 11)), none⟩]))
.skip))
(.seq (.seqr [⟨(.ld 3 (.tmp (pth 9))), opAt P 72 12 0, (some (pth 49)), none⟩])
(.block 0 (.seq (.seqr [⟨(.bin .eql (.tmp (pth 49)) (.val (.int .i64 (0)))), opAt P 72 13 0, (some (pth 52)), none⟩,
⟨(.mv (.tmp (pth 52))), opAt P 72 13 1, (some (pth 51)), none⟩])
(.cond (.tmp (pth 51)) (.seq (.seqr [⟨(.mv (.tmp (pth 11))), opAt P 72 14 0, (some (pth 53)), none⟩,
⟨(.mv (.tmp (pth 53))), opAt P 72 14 1, (some (pth 6)), none⟩,
⟨(.mv (.val (.int .i64 (1)))), opAt P 72 14 2, (some (pth 7)), none⟩])
.ret)
(.seq (.seqr [⟨(.bin .eql (.tmp (pth 49)) (.val (.int .i64 (12)))), opAt P 72 15 0, (some (pth 55)), none⟩,
⟨(.mv (.tmp (pth 55))), opAt P 72 15 1, (some (pth 54)), none⟩])
(.cond (.tmp (pth 54)) (.seq (.seqr [⟨(.mv (.tmp (pth 11))), opAt P 72 16 0, (some (pth 56)), none⟩,
⟨(.mv (.tmp (pth 56))), opAt P 72 16 1, (some (pth 6)), none⟩,
⟨(.mv (.val (.int .i64 (2)))), opAt P 72 16 2, (some (pth 7)), none⟩])
.ret)
(.seq (.seqr [⟨(.mv (.tmp (pth 11))), opAt P 72 17 0, (some (pth 50)), none⟩,
⟨(.mv (.tmp (pth 50))), opAt P 72 17 1, (some (pth 6)), none⟩,
⟨(.mv (.val (.int .i64 (0)))), opAt P 72 17 2, (some (pth 7)), none⟩])
.ret)))))))))))))), [.tmp (pth 6), .tmp (pth 7)]⟩
theorem cf72_ok : cFn Tryd.prog 72 = some (cf72 Tryd.prog) := by kernel_rfl
def cf73 (P : Program) : FF := ⟨32, (.seq (.seqr [⟨(.mv (.tmp (pth 1))), opAt P 73 0 0, (some (pth 8)), none⟩,
⟨(.mv (.tmp (pth 8))), opAt P 73 0 1, (some (pth 6)), none⟩])
(.seq (.seqr [⟨(.mv (.tmp (pth 2))), opAt P 73 1 0, (some (pth 9)), none⟩,
⟨(.bin .sub (.tmp (pth 9)) (.val (.int .i64 (1)))), opAt P 73 1 1, (some (pth 10)), none⟩,
⟨(.mv (.tmp (pth 10))), opAt P 73 1 2, (some (pth 7)), none⟩])
(.block 0 (.loop (.seq (.seq (.seqr [⟨(.mv (.tmp (pth 6))), opAt P 73 2 0, (some (pth 11)), none⟩,
⟨(.mv (.tmp (pth 7))), opAt P 73 2 1, (some (pth 12)), none⟩,
⟨(.bin .lss (.tmp (pth 11)) (.tmp (pth 12))), opAt P 73 2 2, (some (pth 13)), none⟩])
(.cond (.tmp (pth 13)) .skip
(.exit 0)))
(.block 1 (.seq (.reg [⟨(.mv (.tmp (pth 0))), opAt P 73 3 0, (some (pth 14)), none⟩,
⟨(.mv (.tmp (pth 6))), opAt P 73 3 1, (some (pth 15)), none⟩,
⟨(.mv (.tmp (pth 0))), opAt P 73 3 2, (some (pth 16)), none⟩,
⟨(.mv (.tmp (pth 7))), opAt P 73 3 3, (some (pth 17)), none⟩,
⟨(.mv (.tmp (pth 0))), opAt P 73 3 4, (some (pth 18)), none⟩,
⟨(.mv (.tmp (pth 7))), opAt P 73 3 5, (some (pth 19)), none⟩,
⟨(.ia (.tmp (pth 18)) (.tmp (pth 19)) 1), opAt P 73 3 6, (some (pth 20)), none⟩,
⟨(.ld 9 (.tmp (pth 20))), opAt P 73 3 7, (some (pth 21)), none⟩,
⟨(.mv (.tmp (pth 0))), opAt P 73 3 8, (some (pth 22)), none⟩,
⟨(.mv (.tmp (pth 6))), opAt P 73 3 9, (some (pth 23)), none⟩,
⟨(.ia (.tmp (pth 22)) (.tmp (pth 23)) 1), opAt P 73 3 10, (some (pth 24)), none⟩,
⟨(.ld 9 (.tmp (pth 24))), opAt P 73 3 11, (some (pth 25)), none⟩,
⟨(.ia (.tmp (pth 14)) (.tmp (pth 15)) 1), opAt P 73 3 12, (some (pth 26)), none⟩,
⟨(.st 9 (.tmp (pth 26)) (.tmp (pth 21))), opAt P 73 3 13, none, none⟩,
⟨(.ia (.tmp (pth 16)) (.tmp (pth 17)) 1), opAt P 73 3 14, (some (pth 27)), none⟩,
⟨(.st 9 (.tmp (pth 27)) (.tmp (pth 25))), opAt P 73 3 15, none, none⟩] [(7, 11)])
(.seq (.seqr [⟨(.mv (.tmp (pth 6))), opAt P 73 4 0, (some (pth 28)), none⟩,
⟨(.bin .add (.tmp (pth 28)) (.val (.int .i64 (1)))), opAt P 73 4 1, (some (pth 29)), none⟩,
⟨(.mv (.tmp (pth 29))), opAt P 73 4 2, (some (pth 6)), none⟩])
(.seqr [⟨(.mv (.tmp (pth 7))), opAt P 73 5 0, (some (pth 30)), none⟩,
⟨(.bin .sub (.tmp (pth 30)) (.val (.int .i64 (1)))), opAt P 73 5 1, (some (pth 31)), none⟩,
⟨(.mv (.tmp (pth 31))), opAt P 73 5 2, (some (pth 7)), none⟩]))))))))), []⟩
theorem cf73_ok : cFn Tryd.prog 73 = some (cf73 Tryd.prog) := by kernel_rfl
def cf74 (P : Program) : FF := ⟨133, (.seq (.seqr [⟨(.mv (.val (.bool false))), opAt P 74 0 0, (some (pth 6)), none⟩])
(.seq (.seqr [⟨(.mv (.tmp (pth 1))), opAt P 74 1 0, (some (pth 11)), none⟩,
⟨(.bin .add (.tmp (pth 11)) (.val (.int .i64 (1)))), opAt P 74 1 1, (some (pth 12)), none⟩,
⟨(.mv (.tmp (pth 12))), opAt P 74 1 2, (some (pth 7)), none⟩])
(.seq (.seq (.seqr [⟨(.mv (.val (.int .i64 (0)))), opAt P 74 2 0, (some (pth 8)), none⟩])
(.block 0 (.loop (.seq (.seq (.seqr [⟨(.mv (.tmp (pth 8))), opAt P 74 3 0, (some (pth 13)), none⟩,
⟨(.bin .lss (.tmp (pth 13)) (.val (.int .i64 (5)))), opAt P 74 3 1, (some (pth 14)), none⟩])
(.cond (.tmp (pth 14)) .skip
(.exit 0)))
(.seq (.block 1 (.seq (.block 2 (.loop (.seq (.seq (.reg [⟨(.mv (.tmp (pth 7))), opAt P 74 4 0, (some (pth 17)), none⟩,
⟨(.mv (.tmp (pth 2))), opAt P 74 4 1, (some (pth 18)), none⟩,
⟨(.bin .lss (.tmp (pth 17)) (.tmp (pth 18))), opAt P 74 4 2, (some (pth 19)), none⟩,
⟨(.mv (.tmp (pth 19))), opAt P 74 4 3, (some (pth 20)), none⟩,
⟨(.mv (.tmp (pth 0))), opAt P 74 4 4, (some (pth 21)), (some ((pth 20), true))⟩,
⟨(.mv (.tmp (pth 7))), opAt P 74 4 5, (some (pth 22)), (some ((pth 20), true))⟩,
⟨(.ia (.tmp (pth 21)) (.tmp (pth 22)) 1), opAt P 74 4 6, (some (pth 23)), (some ((pth 20), true))⟩,
⟨(.ld 9 (.tmp (pth 23))), opAt P 74 4 7, (some (pth 24)), (some ((pth 20), true))⟩,
⟨(.mv (.tmp (pth 0))), opAt P 74 4 8, (some (pth 25)), (some ((pth 20), true))⟩,
⟨(.mv (.tmp (pth 7))), opAt P 74 4 9, (some (pth 26)), (some ((pth 20), true))⟩,
⟨(.bin .sub (.tmp (pth 26)) (.val (.int .i64 (1)))), opAt P 74 4 10, (some (pth 27)), (some ((pth 20), true))⟩,
⟨(.ia (.tmp (pth 25)) (.tmp (pth 27)) 1), opAt P 74 4 11, (some (pth 28)), (some ((pth 20), true))⟩,
⟨(.ld 9 (.tmp (pth 28))), opAt P 74 4 12, (some (pth 29)), (some ((pth 20), true))⟩,
⟨(.call 75 [(.tmp (pth 24)), (.tmp (pth 29))]), opAt P 74 4 13, (some (pth 30)), (some ((pth 20), true))⟩,
⟨(.un .not (.tmp (pth 30))), opAt P 74 4 14, (some (pth 31)), (some ((pth 20), true))⟩,
⟨(.pick (.tmp (pth 20)) (.tmp (pth 31)) (.val (.bool false))), opAt P 74 4 15, (some (pth 32)), none⟩] [(7, 10), (7, 12)])
(.cond (.tmp (pth 32)) .skip
(.exit 2)))
(.block 3 (.seqr [⟨(.mv (.tmp (pth 7))), opAt P 74 5 0, (some (pth 33)), none⟩,
⟨(.bin .add (.tmp (pth 33)) (.val (.int .i64 (1)))), opAt P 74 5 1, (some (pth 34)), none⟩,
⟨(.mv (.tmp (pth 34))), opAt P 74 5 2, (some (pth 7)), none⟩])))))
(.seq (.seq (.seqr [⟨(.mv (.tmp (pth 7))), opAt P 74 6 0, (some (pth 35)), none⟩,
⟨(.mv (.tmp (pth 2))), opAt P 74 6 1, (some (pth 36)), none⟩,
⟨(.bin .eql (.tmp (pth 35)) (.tmp (pth 36))), opAt P 74 6 2, (some (pth 37)), none⟩])
(.cond (.tmp (pth 37)) (.seq (.seqr [⟨(.mv (.val (.bool true))), opAt P 74 7 0, (some (pth 6)), none⟩])
.ret)
.skip))
(.seq (.seq (.seqr [⟨(.mv (.tmp (pth 2))), opAt P 74 8 0, (some (pth 38)), none⟩,
⟨(.mv (.tmp (pth 1))), opAt P 74 8 1, (some (pth 39)), none⟩,
⟨(.bin .sub (.tmp (pth 38)) (.tmp (pth 39))), opAt P 74 8 2, (some (pth 40)), none⟩,
⟨(.bin .lss (.tmp (pth 40)) (.val (.int .i64 (50)))), opAt P 74 8 3, (some (pth 41)), none⟩])
(.cond (.tmp (pth 41)) (.seq (.seqr [⟨(.mv (.val (.bool false))), opAt P 74 9 0, (some (pth 6)), none⟩])
.ret)
.skip))
(.seq (.reg [⟨(.mv (.tmp (pth 0))), opAt P 74 10 0, (some (pth 42)), none⟩,
⟨(.mv (.tmp (pth 7))), opAt P 74 10 1, (some (pth 43)), none⟩,
⟨(.mv (.tmp (pth 0))), opAt P 74 10 2, (some (pth 44)), none⟩,
⟨(.mv (.tmp (pth 7))), opAt P 74 10 3, (some (pth 45)), none⟩,
⟨(.bin .sub (.tmp (pth 45)) (.val (.int .i64 (1)))), opAt P 74 10 4, (some (pth 46)), none⟩,
⟨(.mv (.tmp (pth 0))), opAt P 74 10 5, (some (pth 47)), none⟩,
⟨(.mv (.tmp (pth 7))), opAt P 74 10 6, (some (pth 48)), none⟩,
⟨(.bin .sub (.tmp (pth 48)) (.val (.int .i64 (1)))), opAt P 74 10 7, (some (pth 49)), none⟩,
⟨(.ia (.tmp (pth 47)) (.tmp (pth 49)) 1), opAt P 74 10 8, (some (pth 50)), none⟩,
⟨(.ld 9 (.tmp (pth 50))), opAt P 74 10 9, (some (pth 51)), none⟩,
⟨(.mv (.tmp (pth 0))), opAt P 74 10 10, (some (pth 52)), none⟩,
⟨(.mv (.tmp (pth 7))), opAt P 74 10 11, (some (pth 53)), none⟩,
⟨(.ia (.tmp (pth 52)) (.tmp (pth 53)) 1), opAt P 74 10 12, (some (pth 54)), none⟩,
⟨(.ld 9 (.tmp (pth 54))), opAt P 74 10 13, (some (pth 55)), none⟩,
⟨(.ia (.tmp (pth 42)) (.tmp (pth 43)) 1), opAt P 74 10 14, (some (pth 56)), none⟩,
⟨(.st 9 (.tmp (pth 56)) (.tmp (pth 51))), opAt P 74 10 15, none, none⟩,
⟨(.ia (.tmp (pth 44)) (.tmp (pth 46)) 1), opAt P 74 10 16, (some (pth 57)), none⟩,
⟨(.st 9 (.tmp (pth 57)) (.tmp (pth 55))), opAt P 74 10 17, none, none⟩] [(4, 7), (4, 9), (4, 13), (7, 13), (9, 13), (4, 15)])
(.seq (.seq (.seqr [⟨(.mv (.tmp (pth 7))), opAt P 74 11 0, (some (pth 58)), none⟩,
⟨(.mv (.tmp (pth 1))), opAt P 74 11 1, (some (pth 59)), none⟩,
⟨(.bin .sub (.tmp (pth 58)) (.tmp (pth 59))), opAt P 74 11 2, (some (pth 60)), none⟩,
⟨(.bin .geq (.tmp (pth 60)) (.val (.int .i64 (2)))), opAt P 74 11 3, (some (pth 61)), none⟩])
(.cond (.tmp (pth 61)) (.seq (.seqr [⟨(.mv (.tmp (pth 7))), opAt P 74 12 0, (some (pth 62)), none⟩,
⟨(.bin .sub (.tmp (pth 62)) (.val (.int .i64 (1)))), opAt P 74 12 1, (some (pth 63)), none⟩,
⟨(.mv (.tmp (pth 63))), opAt P 74 12 2, (some (pth 9)), none⟩])
(.block 4 (.loop (.seq (.seq (.seqr [⟨(.mv (.tmp (pth 9))), opAt P 74 13 0, (some (pth 64)), none⟩,
⟨(.bin .geq (.tmp (pth 64)) (.val (.int .i64 (1)))), opAt P 74 13 1, (some (pth 65)), none⟩])
(.cond (.tmp (pth 65)) .skip
(.exit 4)))
(.seq (.block 5 (.seq (.seq (.reg [⟨(.mv (.tmp (pth 0))), opAt P 74 14 0, (some (pth 68)), none⟩,
⟨(.mv (.tmp (pth 9))), opAt P 74 14 1, (some (pth 69)), none⟩,
⟨(.ia (.tmp (pth 68)) (.tmp (pth 69)) 1), opAt P 74 14 2, (some (pth 70)), none⟩,
⟨(.ld 9 (.tmp (pth 70))), opAt P 74 14 3, (some (pth 71)), none⟩,
⟨(.mv (.tmp (pth 0))), opAt P 74 14 4, (some (pth 72)), none⟩,
⟨(.mv (.tmp (pth 9))), opAt P 74 14 5, (some (pth 73)), none⟩,
⟨(.bin .sub (.tmp (pth 73)) (.val (.int .i64 (1)))), opAt P 74 14 6, (some (pth 74)), none⟩,
⟨(.ia (.tmp (pth 72)) (.tmp (pth 74)) 1), opAt P 74 14 7, (some (pth 75)), none⟩,
⟨(.ld 9 (.tmp (pth 75))), opAt P 74 14 8, (some (pth 76)), none⟩,
⟨(.call 75 [(.tmp (pth 71)), (.tmp (pth 76))]), opAt P 74 14 9, (some (pth 77)), none⟩,
⟨(.un .not (.tmp (pth 77))), opAt P 74 14 10, (some (pth 78)), none⟩] [(3, 6), (3, 8)])
(.cond (.tmp (pth 78)) (.exit 4)
.skip))
(.reg [⟨(.mv (.tmp (pth 0))), opAt P 74 15 0, (some (pth 79)), none⟩,
⟨(.mv (.tmp (pth 9))), opAt P 74 15 1, (some (pth 80)), none⟩,
⟨(.mv (.tmp (pth 0))), opAt P 74 15 2, (some (pth 81)), none⟩,
⟨(.mv (.tmp (pth 9))), opAt P 74 15 3, (some (pth 82)), none⟩,
⟨(.bin .sub (.tmp (pth 82)) (.val (.int .i64 (1)))), opAt P 74 15 4, (some (pth 83)), none⟩,
⟨(.mv (.tmp (pth 0))), opAt P 74 15 5, (some (pth 84)), none⟩,
⟨(.mv (.tmp (pth 9))), opAt P 74 15 6, (some (pth 85)), none⟩,
⟨(.bin .sub (.tmp (pth 85)) (.val (.int .i64 (1)))), opAt P 74 15 7, (some (pth 86)), none⟩,
⟨(.ia (.tmp (pth 84)) (.tmp (pth 86)) 1), opAt P 74 15 8, (some (pth 87)), none⟩,
⟨(.ld 9 (.tmp (pth 87))), opAt P 74 15 9, (some (pth 88)), none⟩,
⟨(.mv (.tmp (pth 0))), opAt P 74 15 10, (some (pth 89)), none⟩,
⟨(.mv (.tmp (pth 9))), opAt P 74 15 11, (some (pth 90)), none⟩,
⟨(.ia (.tmp (pth 89)) (.tmp (pth 90)) 1), opAt P 74 15 12, (some (pth 91)), none⟩,
⟨(.ld 9 (.tmp (pth 91))), opAt P 74 15 13, (some (pth 92)), none⟩,
⟨(.ia (.tmp (pth 79)) (.tmp (pth 80)) 1), opAt P 74 15 14, (some (pth 93)), none⟩,
⟨(.st 9 (.tmp (pth 93)) (.tmp (pth 88))), opAt P 74 15 15, none, none⟩,
⟨(.ia (.tmp (pth 81)) (.tmp (pth 83)) 1), opAt P 74 15 16, (some (pth 94)), none⟩,
⟨(.st 9 (.tmp (pth 94)) (.tmp (pth 92))), opAt P 74 15 17, none, none⟩] [(4, 7), (4, 9), (4, 13), (7, 13), (9, 13), (4, 15)])))
(.seqr [⟨(.mv (.tmp (pth 9))), opAt P 74 16 0, (some (pth 66)), none⟩,
⟨(.bin .sub (.tmp (pth 66)) (.val (.int .i64 (1)))), opAt P 74 16 1, (some (pth 67)), none⟩,
⟨(.mv (.tmp (pth 67))), opAt P 74 16 2, (some (pth 9)), none⟩]))))))
.skip))
(.seq (.seqr [⟨(.mv (.tmp (pth 2))), opAt P 74 17 0, (some (pth 95)), none⟩,
⟨(.mv (.tmp (pth 7))), opAt P 74 17 1, (some (pth 96)), none⟩,
⟨(.bin .sub (.tmp (pth 95)) (.tmp (pth 96))), opAt P 74 17 2, (some (pth 97)), none⟩,
⟨(.bin .geq (.tmp (pth 97)) (.val (.int .i64 (2)))), opAt P 74 17 3, (some (pth 98)), none⟩])
(.cond (.tmp (pth 98)) (.seq (.seqr [⟨(.mv (.tmp (pth 7))), opAt P 74 18 0, (some (pth 99)), none⟩,
⟨(.bin .add (.tmp (pth 99)) (.val (.int .i64 (1)))), opAt P 74 18 1, (some (pth 100)), none⟩,
⟨(.mv (.tmp (pth 100))), opAt P 74 18 2, (some (pth 10)), none⟩])
(.block 6 (.loop (.seq (.seq (.seqr [⟨(.mv (.tmp (pth 10))), opAt P 74 19 0, (some (pth 101)), none⟩,
⟨(.mv (.tmp (pth 2))), opAt P 74 19 1, (some (pth 102)), none⟩,
⟨(.bin .lss (.tmp (pth 101)) (.tmp (pth 102))), opAt P 74 19 2, (some (pth 103)), none⟩])
(.cond (.tmp (pth 103)) .skip
(.exit 6)))
(.seq (.block 7 (.seq (.seq (.reg [⟨(.mv (.tmp (pth 0))), opAt P 74 20 0, (some (pth 106)), none⟩,
⟨(.mv (.tmp (pth 10))), opAt P 74 20 1, (some (pth 107)), none⟩,
⟨(.ia (.tmp (pth 106)) (.tmp (pth 107)) 1), opAt P 74 20 2, (some (pth 108)), none⟩,
⟨(.ld 9 (.tmp (pth 108))), opAt P 74 20 3, (some (pth 109)), none⟩,
⟨(.mv (.tmp (pth 0))), opAt P 74 20 4, (some (pth 110)), none⟩,
⟨(.mv (.tmp (pth 10))), opAt P 74 20 5, (some (pth 111)), none⟩,
⟨(.bin .sub (.tmp (pth 111)) (.val (.int .i64 (1)))), opAt P 74 20 6, (some (pth 112)), none⟩,
⟨(.ia (.tmp (pth 110)) (.tmp (pth 112)) 1), opAt P 74 20 7, (some (pth 113)), none⟩,
⟨(.ld 9 (.tmp (pth 113))), opAt P 74 20 8, (some (pth 114)), none⟩,
⟨(.call 75 [(.tmp (pth 109)), (.tmp (pth 114))]), opAt P 74 20 9, (some (pth 115)), none⟩,
⟨(.un .not (.tmp (pth 115))), opAt P 74 20 10, (some (pth 116)), none⟩] [(3, 6), (3, 8)])
(.cond (.tmp (pth 116)) (.exit 6)
.skip))
(.reg [⟨(.mv (.tmp (pth 0))), opAt P 74 21 0, (some (pth 117)), none⟩,
⟨(.mv (.tmp (pth 10))), opAt P 74 21 1, (some (pth 118)), none⟩,
⟨(.mv (.tmp (pth 0))), opAt P 74 21 2, (some (pth 119)), none⟩,
⟨(.mv (.tmp (pth 10))), opAt P 74 21 3, (some (pth 120)), none⟩,
⟨(.bin .sub (.tmp (pth 120)) (.val (.int .i64 (1)))), opAt P 74 21 4, (some (pth 121)), none⟩,
⟨(.mv (.tmp (pth 0))), opAt P 74 21 5, (some (pth 122)), none⟩,
⟨(.mv (.tmp (pth 10))), opAt P 74 21 6, (some (pth 123)), none⟩,
⟨(.bin .sub (.tmp (pth 123)) (.val (.int .i64 (1)))), opAt P 74 21 7, (some (pth 124)), none⟩,
⟨(.ia (.tmp (pth 122)) (.tmp (pth 124)) 1), opAt P 74 21 8, (some (pth 125)), none⟩,
⟨(.ld 9 (.tmp (pth 125))), opAt P 74 21 9, (some (pth 126)), none⟩,
⟨(.mv (.tmp (pth 0))), opAt P 74 21 10, (some (pth 127)), none⟩,
⟨(.mv (.tmp (pth 10))), opAt P 74 21 11, (some (pth 128)), none⟩,
⟨(.ia (.tmp (pth 127)) (.tmp (pth 128)) 1), opAt P 74 21 12, (some (pth 129)), none⟩,
⟨(.ld 9 (.tmp (pth 129))), opAt P 74 21 13, (some (pth 130)), none⟩,
⟨(.ia (.tmp (pth 117)) (.tmp (pth 118)) 1), opAt P 74 21 14, (some (pth 131)), none⟩,
⟨(.st 9 (.tmp (pth 131)) (.tmp (pth 126))), opAt P 74 21 15, none, none⟩,
⟨(.ia (.tmp (pth 119)) (.tmp (pth 121)) 1), opAt P 74 21 16, (some (pth 132)), none⟩,
⟨(.st 9 (.tmp (pth 132)) (.tmp (pth 130))), opAt P 74 21 17, none, none⟩] [(4, 7), (4, 9), (4, 13), (7, 13), (9, 13), (4, 15)])))
(.seqr [⟨(.mv (.tmp (pth 10))), opAt P 74 22 0, (some (pth 104)), none⟩,
⟨(.bin .add (.tmp (pth 104)) (.val (.int .i64 (1)))), opAt P 74 22 1, (some (pth 105)), none⟩,
⟨(.mv (.tmp (pth 105))), opAt P 74 22 2, (some (pth 10)), none⟩]))))))
.skip))))))))
(.seqr [⟨(.mv (.tmp (pth 8))), opAt P 74 23 0, (some (pth 15)), none⟩,
⟨(.bin .add (.tmp (pth 15)) (.val (.int .i64 (1)))), opAt P 74 23 1, (some (pth 16)), none⟩,
⟨(.mv (.tmp (pth 16))), opAt P 74 23 2, (some (pth 8)), none⟩]))))))
(.seq (.seqr [⟨(.mv (.val (.bool false))), opAt P 74 24 0, (some (pth 6)), none⟩])
.ret)))), [.tmp (pth 6)]⟩
theorem cf74_ok : cFn Tryd.prog 74 = some (cf74 Tryd.prog) := by kernel_rfl
def cf75 (P : Program) : FF := ⟨17, (.seq (.seqr [⟨(.mv (.val (.bool false))), opAt P 75 0 0, (some (pth 4)), none⟩])
(.seq (.seqr [⟨(.mv (.tmp (pth 0))), opAt P 75 1 0, (some (pth 5)), none⟩,
⟨(.call 85 [(.tmp (pth 5))]), opAt P 75 1 1, (some (pth 6)), none⟩,
⟨(.mv (.tmp (pth 6))), opAt P 75 1 2, (some (pth 7)), none⟩,
⟨(.mv (.tmp (pth 1))), opAt P 75 1 3, (some (pth 8)), (some ((pth 7), true))⟩,
⟨(.call 85 [(.tmp (pth 8))]), opAt P 75 1 4, (some (pth 9)), (some ((pth 7), true))⟩,
⟨(.un .not (.tmp (pth 9))), opAt P 75 1 5, (some (pth 10)), (some ((pth 7), true))⟩,
⟨(.pick (.tmp (pth 7)) (.tmp (pth 10)) (.val (.bool false))), opAt P 75 1 6, (some (pth 11)), none⟩,
⟨(.mv (.tmp (pth 11))), opAt P 75 1 7, (some (pth 12)), none⟩,
⟨(.mv (.tmp (pth 0))), opAt P 75 1 8, (some (pth 13)), (some ((pth 12), false))⟩,
⟨(.mv (.tmp (pth 1))), opAt P 75 1 9, (some (pth 14)), (some ((pth 12), false))⟩,
⟨(.bin .lss (.tmp (pth 13)) (.tmp (pth 14))), opAt P 75 1 10, (some (pth 15)), (some ((pth 12), false))⟩,
⟨(.pick (.tmp (pth 12)) (.val (.bool true)) (.tmp (pth 15))), opAt P 75 1 11, (some (pth 16)), none⟩,
⟨(.mv (.tmp (pth 16))), opAt P 75 1 12, (some (pth 4)), none⟩])
.ret)), [.tmp (pth 4)]⟩
theorem cf75_ok : cFn Tryd.prog 75 = some (cf75 Tryd.prog) := by kernel_rfl
def cf76 (P : Program) : FF := ⟨84, (.seq (.seqr [⟨(.mv (.val (.int .i64 (0)))), opAt P 76 0 0, (some (pth 8)), none⟩])
(.seq (.reg [⟨(.mv (.tmp (pth 0))), opAt P 76 1 0, (some (pth 11)), none⟩,
⟨(.mv (.tmp (pth 1))), opAt P 76 1 1, (some (pth 12)), none⟩,
⟨(.mv (.tmp (pth 0))), opAt P 76 1 2, (some (pth 13)), none⟩,
⟨(.mv (.tmp (pth 3))), opAt P 76 1 3, (some (pth 14)), none⟩,
⟨(.mv (.tmp (pth 0))), opAt P 76 1 4, (some (pth 15)), none⟩,
⟨(.mv (.tmp (pth 3))), opAt P 76 1 5, (some (pth 16)), none⟩,
⟨(.ia (.tmp (pth 15)) (.tmp (pth 16)) 1), opAt P 76 1 6, (some (pth 17)), none⟩,
⟨(.ld 9 (.tmp (pth 17))), opAt P 76 1 7, (some (pth 18)), none⟩,
⟨(.mv (.tmp (pth 0))), opAt P 76 1 8, (some (pth 19)), none⟩,
⟨(.mv (.tmp (pth 1))), opAt P 76 1 9, (some (pth 20)), none⟩,
⟨(.ia (.tmp (pth 19)) (.tmp (pth 20)) 1), opAt P 76 1 10, (some (pth 21)), none⟩,
⟨(.ld 9 (.tmp (pth 21))), opAt P 76 1 11, (some (pth 22)), none⟩,
⟨(.ia (.tmp (pth 11)) (.tmp (pth 12)) 1), opAt P 76 1 12, (some (pth 23)), none⟩,
⟨(.st 9 (.tmp (pth 23)) (.tmp (pth 18))), opAt P 76 1 13, none, none⟩,
⟨(.ia (.tmp (pth 13)) (.tmp (pth 14)) 1), opAt P 76 1 14, (some (pth 24)), none⟩,
⟨(.st 9 (.tmp (pth 24)) (.tmp (pth 22))), opAt P 76 1 15, none, none⟩] [(7, 11)])
(.seq (.seqr [⟨(.mv (.tmp (pth 1))), opAt P 76 2 0, (some (pth 25)), none⟩,
⟨(.bin .add (.tmp (pth 25)) (.val (.int .i64 (1)))), opAt P 76 2 1, (some (pth 26)), none⟩,
⟨(.mv (.tmp (pth 2))), opAt P 76 2 2, (some (pth 27)), none⟩,
⟨(.bin .sub (.tmp (pth 27)) (.val (.int .i64 (1)))), opAt P 76 2 3, (some (pth 28)), none⟩,
⟨(.mv (.tmp (pth 26))), opAt P 76 2 4, (some (pth 9)), none⟩,
⟨(.mv (.tmp (pth 28))), opAt P 76 2 5, (some (pth 10)), none⟩])
(.seq (.block 0 (.loop (.block 1 (.seq (.block 2 (.loop (.seq (.seq (.reg [⟨(.mv (.tmp (pth 9))), opAt P 76 3 0, (some (pth 29)), none⟩,
⟨(.mv (.tmp (pth 10))), opAt P 76 3 1, (some (pth 30)), none⟩,
⟨(.bin .leq (.tmp (pth 29)) (.tmp (pth 30))), opAt P 76 3 2, (some (pth 31)), none⟩,
⟨(.mv (.tmp (pth 31))), opAt P 76 3 3, (some (pth 32)), none⟩,
⟨(.mv (.tmp (pth 0))), opAt P 76 3 4, (some (pth 33)), (some ((pth 32), true))⟩,
⟨(.mv (.tmp (pth 1))), opAt P 76 3 5, (some (pth 34)), (some ((pth 32), true))⟩,
⟨(.ia (.tmp (pth 33)) (.tmp (pth 34)) 1), opAt P 76 3 6, (some (pth 35)), (some ((pth 32), true))⟩,
⟨(.ld 9 (.tmp (pth 35))), opAt P 76 3 7, (some (pth 36)), (some ((pth 32), true))⟩,
⟨(.mv (.tmp (pth 0))), opAt P 76 3 8, (some (pth 37)), (some ((pth 32), true))⟩,
⟨(.mv (.tmp (pth 9))), opAt P 76 3 9, (some (pth 38)), (some ((pth 32), true))⟩,
⟨(.ia (.tmp (pth 37)) (.tmp (pth 38)) 1), opAt P 76 3 10, (some (pth 39)), (some ((pth 32), true))⟩,
⟨(.ld 9 (.tmp (pth 39))), opAt P 76 3 11, (some (pth 40)), (some ((pth 32), true))⟩,
⟨(.call 75 [(.tmp (pth 36)), (.tmp (pth 40))]), opAt P 76 3 12, (some (pth 41)), (some ((pth 32), true))⟩,
⟨(.un .not (.tmp (pth 41))), opAt P 76 3 13, (some (pth 42)), (some ((pth 32), true))⟩,
⟨(.pick (.tmp (pth 32)) (.tmp (pth 42)) (.val (.bool false))), opAt P 76 3 14, (some (pth 43)), none⟩] [(7, 11)])
(.cond (.tmp (pth 43)) .skip
(.exit 2)))
(.block 3 (.seqr [⟨(.mv (.tmp (pth 9))), opAt P 76 4 0, (some (pth 44)), none⟩,
⟨(.bin .add (.tmp (pth 44)) (.val (.int .i64 (1)))), opAt P 76 4 1, (some (pth 45)), none⟩,
⟨(.mv (.tmp (pth 45))), opAt P 76 4 2, (some (pth 9)), none⟩])))))
(.seq (.block 4 (.loop (.seq (.seq (.reg [⟨(.mv (.tmp (pth 9))), opAt P 76 5 0, (some (pth 46)), none⟩,
⟨(.mv (.tmp (pth 10))), opAt P 76 5 1, (some (pth 47)), none⟩,
⟨(.bin .leq (.tmp (pth 46)) (.tmp (pth 47))), opAt P 76 5 2, (some (pth 48)), none⟩,
⟨(.mv (.tmp (pth 48))), opAt P 76 5 3, (some (pth 49)), none⟩,
⟨(.mv (.tmp (pth 0))), opAt P 76 5 4, (some (pth 50)), (some ((pth 49), true))⟩,
⟨(.mv (.tmp (pth 1))), opAt P 76 5 5, (some (pth 51)), (some ((pth 49), true))⟩,
⟨(.ia (.tmp (pth 50)) (.tmp (pth 51)) 1), opAt P 76 5 6, (some (pth 52)), (some ((pth 49), true))⟩,
⟨(.ld 9 (.tmp (pth 52))), opAt P 76 5 7, (some (pth 53)), (some ((pth 49), true))⟩,
⟨(.mv (.tmp (pth 0))), opAt P 76 5 8, (some (pth 54)), (some ((pth 49), true))⟩,
⟨(.mv (.tmp (pth 10))), opAt P 76 5 9, (some (pth 55)), (some ((pth 49), true))⟩,
⟨(.ia (.tmp (pth 54)) (.tmp (pth 55)) 1), opAt P 76 5 10, (some (pth 56)), (some ((pth 49), true))⟩,
⟨(.ld 9 (.tmp (pth 56))), opAt P 76 5 11, (some (pth 57)), (some ((pth 49), true))⟩,
⟨(.call 75 [(.tmp (pth 53)), (.tmp (pth 57))]), opAt P 76 5 12, (some (pth 58)), (some ((pth 49), true))⟩,
⟨(.pick (.tmp (pth 49)) (.tmp (pth 58)) (.val (.bool false))), opAt P 76 5 13, (some (pth 59)), none⟩] [(7, 11)])
(.cond (.tmp (pth 59)) .skip
(.exit 4)))
(.block 5 (.seqr [⟨(.mv (.tmp (pth 10))), opAt P 76 6 0, (some (pth 60)), none⟩,
⟨(.bin .sub (.tmp (pth 60)) (.val (.int .i64 (1)))), opAt P 76 6 1, (some (pth 61)), none⟩,
⟨(.mv (.tmp (pth 61))), opAt P 76 6 2, (some (pth 10)), none⟩])))))
(.seq (.seq (.seqr [⟨(.mv (.tmp (pth 9))), opAt P 76 7 0, (some (pth 62)), none⟩,
⟨(.mv (.tmp (pth 10))), opAt P 76 7 1, (some (pth 63)), none⟩,
⟨(.bin .gtr (.tmp (pth 62)) (.tmp (pth 63))), opAt P 76 7 2, (some (pth 64)), none⟩])
(.cond (.tmp (pth 64)) (.exit 0)
.skip))
(.seq (.reg [⟨(.mv (.tmp (pth 0))), opAt P 76 8 0, (some (pth 65)), none⟩,
⟨(.mv (.tmp (pth 9))), opAt P 76 8 1, (some (pth 66)), none⟩,
⟨(.mv (.tmp (pth 0))), opAt P 76 8 2, (some (pth 67)), none⟩,
⟨(.mv (.tmp (pth 10))), opAt P 76 8 3, (some (pth 68)), none⟩,
⟨(.mv (.tmp (pth 0))), opAt P 76 8 4, (some (pth 69)), none⟩,
⟨(.mv (.tmp (pth 10))), opAt P 76 8 5, (some (pth 70)), none⟩,
⟨(.ia (.tmp (pth 69)) (.tmp (pth 70)) 1), opAt P 76 8 6, (some (pth 71)), none⟩,
⟨(.ld 9 (.tmp (pth 71))), opAt P 76 8 7, (some (pth 72)), none⟩,
⟨(.mv (.tmp (pth 0))), opAt P 76 8 8, (some (pth 73)), none⟩,
⟨(.mv (.tmp (pth 9))), opAt P 76 8 9, (some (pth 74)), none⟩,
⟨(.ia (.tmp (pth 73)) (.tmp (pth 74)) 1), opAt P 76 8 10, (some (pth 75)), none⟩,
⟨(.ld 9 (.tmp (pth 75))), opAt P 76 8 11, (some (pth 76)), none⟩,
⟨(.ia (.tmp (pth 65)) (.tmp (pth 66)) 1), opAt P 76 8 12, (some (pth 77)), none⟩,
⟨(.st 9 (.tmp (pth 77)) (.tmp (pth 72))), opAt P 76 8 13, none, none⟩,
⟨(.ia (.tmp (pth 67)) (.tmp (pth 68)) 1), opAt P 76 8 14, (some (pth 78)), none⟩,
⟨(.st 9 (.tmp (pth 78)) (.tmp (pth 76))), opAt P 76 8 15, none, none⟩] [(7, 11)])
(.seq (.seqr [⟨(.mv (.tmp (pth 9))), opAt P 76 9 0, (some (pth 79)), none⟩,
⟨(.bin .add (.tmp (pth 79)) (.val (.int .i64 (1)))), opAt P 76 9 1, (some (pth 80)), none⟩,
⟨(.mv (.tmp (pth 80))), opAt P 76 9 2, (some (pth 9)), none⟩])
(.seqr [⟨(.mv (.tmp (pth 10))), opAt P 76 10 0, (some (pth 81)), none⟩,
⟨(.bin .sub (.tmp (pth 81)) (.val (.int .i64 (1)))), opAt P 76 10 1, (some (pth 82)), none⟩,
⟨(.mv (.tmp (pth 82))), opAt P 76 10 2, (some (pth 10)), none⟩])))))))))
(.seq (.seqr [⟨(.mv (.tmp (pth 9))), opAt P 76 11 0, (some (pth 83)), none⟩,
⟨(.mv (.tmp (pth 83))), opAt P 76 11 1, (some (pth 8)), none⟩])
.ret))))), [.tmp (pth 8)]⟩
theorem cf76_ok : cFn Tryd.prog 76 = some (cf76 Tryd.prog) := by kernel_rfl
def cf77 (P : Program) : FF := ⟨168, (.seq (.seqr [⟨(.mv (.val (.int .i64 (0)))), opAt P 77 0 0, (some (pth 8)), none⟩,
⟨(.mv (.val (.bool false))), opAt P 77 0 1, (some (pth 9)), none⟩])
(.seq (.reg [⟨(.mv (.tmp (pth 0))), opAt P 77 1 0, (some (pth 12)), none⟩,
⟨(.mv (.tmp (pth 1))), opAt P 77 1 1, (some (pth 13)), none⟩,
⟨(.mv (.tmp (pth 0))), opAt P 77 1 2, (some (pth 14)), none⟩,
⟨(.mv (.tmp (pth 3))), opAt P 77 1 3, (some (pth 15)), none⟩,
⟨(.mv (.tmp (pth 0))), opAt P 77 1 4, (some (pth 16)), none⟩,
⟨(.mv (.tmp (pth 3))), opAt P 77 1 5, (some (pth 17)), none⟩,
⟨(.ia (.tmp (pth 16)) (.tmp (pth 17)) 1), opAt P 77 1 6, (some (pth 18)), none⟩,
⟨(.ld 9 (.tmp (pth 18))), opAt P 77 1 7, (some (pth 19)), none⟩,
⟨(.mv (.tmp (pth 0))), opAt P 77 1 8, (some (pth 20)), none⟩,
⟨(.mv (.tmp (pth 1))), opAt P 77 1 9, (some (pth 21)), none⟩,
⟨(.ia (.tmp (pth 20)) (.tmp (pth 21)) 1), opAt P 77 1 10, (some (pth 22)), none⟩,
⟨(.ld 9 (.tmp (pth 22))), opAt P 77 1 11, (some (pth 23)), none⟩,
⟨(.ia (.tmp (pth 12)) (.tmp (pth 13)) 1), opAt P 77 1 12, (some (pth 24)), none⟩,
⟨(.st 9 (.tmp (pth 24)) (.tmp (pth 19))), opAt P 77 1 13, none, none⟩,
⟨(.ia (.tmp (pth 14)) (.tmp (pth 15)) 1), opAt P 77 1 14, (some (pth 25)), none⟩,
⟨(.st 9 (.tmp (pth 25)) (.tmp (pth 23))), opAt P 77 1 15, none, none⟩] [(7, 11)])
(.seq (.seqr [⟨(.mv (.tmp (pth 1))), opAt P 77 2 0, (some (pth 26)), none⟩,
⟨(.bin .add (.tmp (pth 26)) (.val (.int .i64 (1)))), opAt P 77 2 1, (some (pth 27)), none⟩,
⟨(.mv (.tmp (pth 2))), opAt P 77 2 2, (some (pth 28)), none⟩,
⟨(.bin .sub (.tmp (pth 28)) (.val (.int .i64 (1)))), opAt P 77 2 3, (some (pth 29)), none⟩,
⟨(.mv (.tmp (pth 27))), opAt P 77 2 4, (some (pth 10)), none⟩,
⟨(.mv (.tmp (pth 29))), opAt P 77 2 5, (some (pth 11)), none⟩])
(.seq (.block 0 (.loop (.seq (.seq (.reg [⟨(.mv (.tmp (pth 10))), opAt P 77 3 0, (some (pth 30)), none⟩,
⟨(.mv (.tmp (pth 11))), opAt P 77 3 1, (some (pth 31)), none⟩,
⟨(.bin .leq (.tmp (pth 30)) (.tmp (pth 31))), opAt P 77 3 2, (some (pth 32)), none⟩,
⟨(.mv (.tmp (pth 32))), opAt P 77 3 3, (some (pth 33)), none⟩,
⟨(.mv (.tmp (pth 0))), opAt P 77 3 4, (some (pth 34)), (some ((pth 33), true))⟩,
⟨(.mv (.tmp (pth 10))), opAt P 77 3 5, (some (pth 35)), (some ((pth 33), true))⟩,
⟨(.ia (.tmp (pth 34)) (.tmp (pth 35)) 1), opAt P 77 3 6, (some (pth 36)), (some ((pth 33), true))⟩,
⟨(.ld 9 (.tmp (pth 36))), opAt P 77 3 7, (some (pth 37)), (some ((pth 33), true))⟩,
⟨(.mv (.tmp (pth 0))), opAt P 77 3 8, (some (pth 38)), (some ((pth 33), true))⟩,
⟨(.mv (.tmp (pth 1))), opAt P 77 3 9, (some (pth 39)), (some ((pth 33), true))⟩,
⟨(.ia (.tmp (pth 38)) (.tmp (pth 39)) 1), opAt P 77 3 10, (some (pth 40)), (some ((pth 33), true))⟩,
⟨(.ld 9 (.tmp (pth 40))), opAt P 77 3 11, (some (pth 41)), (some ((pth 33), true))⟩,
⟨(.call 75 [(.tmp (pth 37)), (.tmp (pth 41))]), opAt P 77 3 12, (some (pth 42)), (some ((pth 33), true))⟩,
⟨(.pick (.tmp (pth 33)) (.tmp (pth 42)) (.val (.bool false))), opAt P 77 3 13, (some (pth 43)), none⟩] [(7, 11)])
(.cond (.tmp (pth 43)) .skip
(.exit 0)))
(.block 1 (.seqr [⟨(.mv (.tmp (pth 10))), opAt P 77 4 0, (some (pth 44)), none⟩,
⟨(.bin .add (.tmp (pth 44)) (.val (.int .i64 (1)))), opAt P 77 4 1, (some (pth 45)), none⟩,
⟨(.mv (.tmp (pth 45))), opAt P 77 4 2, (some (pth 10)), none⟩])))))
(.seq (.block 2 (.loop (.seq (.seq (.reg [⟨(.mv (.tmp (pth 10))), opAt P 77 5 0, (some (pth 46)), none⟩,
⟨(.mv (.tmp (pth 11))), opAt P 77 5 1, (some (pth 47)), none⟩,
⟨(.bin .leq (.tmp (pth 46)) (.tmp (pth 47))), opAt P 77 5 2, (some (pth 48)), none⟩,
⟨(.mv (.tmp (pth 48))), opAt P 77 5 3, (some (pth 49)), none⟩,
⟨(.mv (.tmp (pth 0))), opAt P 77 5 4, (some (pth 50)), (some ((pth 49), true))⟩,
⟨(.mv (.tmp (pth 11))), opAt P 77 5 5, (some (pth 51)), (some ((pth 49), true))⟩,
⟨(.ia (.tmp (pth 50)) (.tmp (pth 51)) 1), opAt P 77 5 6, (some (pth 52)), (some ((pth 49), true))⟩,
⟨(.ld 9 (.tmp (pth 52))), opAt P 77 5 7, (some (pth 53)), (some ((pth 49), true))⟩,
⟨(.mv (.tmp (pth 0))), opAt P 77 5 8, (some (pth 54)), (some ((pth 49), true))⟩,
⟨(.mv (.tmp (pth 1))), opAt P 77 5 9, (some (pth 55)), (some ((pth 49), true))⟩,
⟨(.ia (.tmp (pth 54)) (.tmp (pth 55)) 1), opAt P 77 5 10, (some (pth 56)), (some ((pth 49), true))⟩,
⟨(.ld 9 (.tmp (pth 56))), opAt P 77 5 11, (some (pth 57)), (some ((pth 49), true))⟩,
⟨(.call 75 [(.tmp (pth 53)), (.tmp (pth 57))]), opAt P 77 5 12, (some (pth 58)), (some ((pth 49), true))⟩,
⟨(.un .not (.tmp (pth 58))), opAt P 77 5 13, (some (pth 59)), (some ((pth 49), true))⟩,
⟨(.pick (.tmp (pth 49)) (.tmp (pth 59)) (.val (.bool false))), opAt P 77 5 14, (some (pth 60)), none⟩] [(7, 11)])
(.cond (.tmp (pth 60)) .skip
(.exit 2)))
(.block 3 (.seqr [⟨(.mv (.tmp (pth 11))), opAt P 77 6 0, (some (pth 61)), none⟩,
⟨(.bin .sub (.tmp (pth 61)) (.val (.int .i64 (1)))), opAt P 77 6 1, (some (pth 62)), none⟩,
⟨(.mv (.tmp (pth 62))), opAt P 77 6 2, (some (pth 11)), none⟩])))))
(.seq (.seq (.seqr [⟨(.mv (.tmp (pth 10))), opAt P 77 7 0, (some (pth 63)), none⟩,
⟨(.mv (.tmp (pth 11))), opAt P 77 7 1, (some (pth 64)), none⟩,
⟨(.bin .gtr (.tmp (pth 63)) (.tmp (pth 64))), opAt P 77 7 2, (some (pth 65)), none⟩])
(.cond (.tmp (pth 65)) (.seq (.reg [⟨(.mv (.tmp (pth 0))), opAt P 77 8 0, (some (pth 66)), none⟩,
⟨(.mv (.tmp (pth 11))), opAt P 77 8 1, (some (pth 67)), none⟩,
⟨(.mv (.tmp (pth 0))), opAt P 77 8 2, (some (pth 68)), none⟩,
⟨(.mv (.tmp (pth 1))), opAt P 77 8 3, (some (pth 69)), none⟩,
⟨(.mv (.tmp (pth 0))), opAt P 77 8 4, (some (pth 70)), none⟩,
⟨(.mv (.tmp (pth 1))), opAt P 77 8 5, (some (pth 71)), none⟩,
⟨(.ia (.tmp (pth 70)) (.tmp (pth 71)) 1), opAt P 77 8 6, (some (pth 72)), none⟩,
⟨(.ld 9 (.tmp (pth 72))), opAt P 77 8 7, (some (pth 73)), none⟩,
⟨(.mv (.tmp (pth 0))), opAt P 77 8 8, (some (pth 74)), none⟩,
⟨(.mv (.tmp (pth 11))), opAt P 77 8 9, (some (pth 75)), none⟩,
⟨(.ia (.tmp (pth 74)) (.tmp (pth 75)) 1), opAt P 77 8 10, (some (pth 76)), none⟩,
⟨(.ld 9 (.tmp (pth 76))), opAt P 77 8 11, (some (pth 77)), none⟩,
⟨(.ia (.tmp (pth 66)) (.tmp (pth 67)) 1), opAt P 77 8 12, (some (pth 78)), none⟩,
⟨(.st 9 (.tmp (pth 78)) (.tmp (pth 73))), opAt P 77 8 13, none, none⟩,
⟨(.ia (.tmp (pth 68)) (.tmp (pth 69)) 1), opAt P 77 8 14, (some (pth 79)), none⟩,
⟨(.st 9 (.tmp (pth 79)) (.tmp (pth 77))), opAt P 77 8 15, none, none⟩] [(7, 11)])
(.seq (.seqr [⟨(.mv (.tmp (pth 11))), opAt P 77 9 0, (some (pth 80)), none⟩,
⟨(.mv (.tmp (pth 80))), opAt P 77 9 1, (some (pth 8)), none⟩,
⟨(.mv (.val (.bool true))), opAt P 77 9 2, (some (pth 9)), none⟩])
.ret))
.skip))
(.seq (.reg [⟨(.mv (.tmp (pth 0))), opAt P 77 10 0, (some (pth 81)), none⟩,
⟨(.mv (.tmp (pth 10))), opAt P 77 10 1, (some (pth 82)), none⟩,
⟨(.mv (.tmp (pth 0))), opAt P 77 10 2, (some (pth 83)), none⟩,
⟨(.mv (.tmp (pth 11))), opAt P 77 10 3, (some (pth 84)), none⟩,
⟨(.mv (.tmp (pth 0))), opAt P 77 10 4, (some (pth 85)), none⟩,
⟨(.mv (.tmp (pth 11))), opAt P 77 10 5, (some (pth 86)), none⟩,
⟨(.ia (.tmp (pth 85)) (.tmp (pth 86)) 1), opAt P 77 10 6, (some (pth 87)), none⟩,
⟨(.ld 9 (.tmp (pth 87))), opAt P 77 10 7, (some (pth 88)), none⟩,
⟨(.mv (.tmp (pth 0))), opAt P 77 10 8, (some (pth 89)), none⟩,
⟨(.mv (.tmp (pth 10))), opAt P 77 10 9, (some (pth 90)), none⟩,
⟨(.ia (.tmp (pth 89)) (.tmp (pth 90)) 1), opAt P 77 10 10, (some (pth 91)), none⟩,
⟨(.ld 9 (.tmp (pth 91))), opAt P 77 10 11, (some (pth 92)), none⟩,
⟨(.ia (.tmp (pth 81)) (.tmp (pth 82)) 1), opAt P 77 10 12, (some (pth 93)), none⟩,
⟨(.st 9 (.tmp (pth 93)) (.tmp (pth 88))), opAt P 77 10 13, none, none⟩,
⟨(.ia (.tmp (pth 83)) (.tmp (pth 84)) 1), opAt P 77 10 14, (some (pth 94)), none⟩,
⟨(.st 9 (.tmp (pth 94)) (.tmp (pth 92))), opAt P 77 10 15, none, none⟩] [(7, 11)])
(.seq (.seqr [⟨(.mv (.tmp (pth 10))), opAt P 77 11 0, (some (pth 95)), none⟩,
⟨(.bin .add (.tmp (pth 95)) (.val (.int .i64 (1)))), opAt P 77 11 1, (some (pth 96)), none⟩,
⟨(.mv (.tmp (pth 96))), opAt P 77 11 2, (some (pth 10)), none⟩])
(.seq (.seqr [⟨(.mv (.tmp (pth 11))), opAt P 77 12 0, (some (pth 97)), none⟩,
⟨(.bin .sub (.tmp (pth 97)) (.val (.int .i64 (1)))), opAt P 77 12 1, (some (pth 98)), none⟩,
⟨(.mv (.tmp (pth 98))), opAt P 77 12 2, (some (pth 11)), none⟩])
(.seq (.block 4 (.loop (.block 5 (.seq (.block 6 (.loop (.seq (.seq (.reg [⟨(.mv (.tmp (pth 10))), opAt P 77 13 0, (some (pth 99)), none⟩,
⟨(.mv (.tmp (pth 11))), opAt P 77 13 1, (some (pth 100)), none⟩,
⟨(.bin .leq (.tmp (pth 99)) (.tmp (pth 100))), opAt P 77 13 2, (some (pth 101)), none⟩,
⟨(.mv (.tmp (pth 101))), opAt P 77 13 3, (some (pth 102)), none⟩,
⟨(.mv (.tmp (pth 0))), opAt P 77 13 4, (some (pth 103)), (some ((pth 102), true))⟩,
⟨(.mv (.tmp (pth 10))), opAt P 77 13 5, (some (pth 104)), (some ((pth 102), true))⟩,
⟨(.ia (.tmp (pth 103)) (.tmp (pth 104)) 1), opAt P 77 13 6, (some (pth 105)), (some ((pth 102), true))⟩,
⟨(.ld 9 (.tmp (pth 105))), opAt P 77 13 7, (some (pth 106)), (some ((pth 102), true))⟩,
⟨(.mv (.tmp (pth 0))), opAt P 77 13 8, (some (pth 107)), (some ((pth 102), true))⟩,
⟨(.mv (.tmp (pth 1))), opAt P 77 13 9, (some (pth 108)), (some ((pth 102), true))⟩,
⟨(.ia (.tmp (pth 107)) (.tmp (pth 108)) 1), opAt P 77 13 10, (some (pth 109)), (some ((pth 102), true))⟩,
⟨(.ld 9 (.tmp (pth 109))), opAt P 77 13 11, (some (pth 110)), (some ((pth 102), true))⟩,
⟨(.call 75 [(.tmp (pth 106)), (.tmp (pth 110))]), opAt P 77 13 12, (some (pth 111)), (some ((pth 102), true))⟩,
⟨(.pick (.tmp (pth 102)) (.tmp (pth 111)) (.val (.bool false))), opAt P 77 13 13, (some (pth 112)), none⟩] [(7, 11)])
(.cond (.tmp (pth 112)) .skip
(.exit 6)))
(.block 7 (.seqr [⟨(.mv (.tmp (pth 10))), opAt P 77 14 0, (some (pth 113)), none⟩,
⟨(.bin .add (.tmp (pth 113)) (.val (.int .i64 (1)))), opAt P 77 14 1, (some (pth 114)), none⟩,
⟨(.mv (.tmp (pth 114))), opAt P 77 14 2, (some (pth 10)), none⟩])))))
(.seq (.block 8 (.loop (.seq (.seq (.reg [⟨(.mv (.tmp (pth 10))), opAt P 77 15 0, (some (pth 115)), none⟩,
⟨(.mv (.tmp (pth 11))), opAt P 77 15 1, (some (pth 116)), none⟩,
⟨(.bin .leq (.tmp (pth 115)) (.tmp (pth 116))), opAt P 77 15 2, (some (pth 117)), none⟩,
⟨(.mv (.tmp (pth 117))), opAt P 77 15 3, (some (pth 118)), none⟩,
⟨(.mv (.tmp (pth 0))), opAt P 77 15 4, (some (pth 119)), (some ((pth 118), true))⟩,
⟨(.mv (.tmp (pth 11))), opAt P 77 15 5, (some (pth 120)), (some ((pth 118), true))⟩,
⟨(.ia (.tmp (pth 119)) (.tmp (pth 120)) 1), opAt P 77 15 6, (some (pth 121)), (some ((pth 118), true))⟩,
⟨(.ld 9 (.tmp (pth 121))), opAt P 77 15 7, (some (pth 122)), (some ((pth 118), true))⟩,
⟨(.mv (.tmp (pth 0))), opAt P 77 15 8, (some (pth 123)), (some ((pth 118), true))⟩,
⟨(.mv (.tmp (pth 1))), opAt P 77 15 9, (some (pth 124)), (some ((pth 118), true))⟩,
⟨(.ia (.tmp (pth 123)) (.tmp (pth 124)) 1), opAt P 77 15 10, (some (pth 125)), (some ((pth 118), true))⟩,
⟨(.ld 9 (.tmp (pth 125))), opAt P 77 15 11, (some (pth 126)), (some ((pth 118), true))⟩,
⟨(.call 75 [(.tmp (pth 122)), (.tmp (pth 126))]), opAt P 77 15 12, (some (pth 127)), (some ((pth 118), true))⟩,
⟨(.un .not (.tmp (pth 127))), opAt P 77 15 13, (some (pth 128)), (some ((pth 118), true))⟩,
⟨(.pick (.tmp (pth 118)) (.tmp (pth 128)) (.val (.bool false))), opAt P 77 15 14, (some (pth 129)), none⟩] [(7, 11)])
(.cond (.tmp (pth 129)) .skip
(.exit 8)))
(.block 9 (.seqr [⟨(.mv (.tmp (pth 11))), opAt P 77 16 0, (some (pth 130)), none⟩,
⟨(.bin .sub (.tmp (pth 130)) (.val (.int .i64 (1)))), opAt P 77 16 1, (some (pth 131)), none⟩,
⟨(.mv (.tmp (pth 131))), opAt P 77 16 2, (some (pth 11)), none⟩])))))
(.seq (.seq (.seqr [⟨(.mv (.tmp (pth 10))), opAt P 77 17 0, (some (pth 132)), none⟩,
⟨(.mv (.tmp (pth 11))), opAt P 77 17 1, (some (pth 133)), none⟩,
⟨(.bin .gtr (.tmp (pth 132)) (.tmp (pth 133))), opAt P 77 17 2, (some (pth 134)), none⟩])
(.cond (.tmp (pth 134)) (.exit 4)
.skip))
(.seq (.reg [⟨(.mv (.tmp (pth 0))), opAt P 77 18 0, (some (pth 135)), none⟩,
⟨(.mv (.tmp (pth 10))), opAt P 77 18 1, (some (pth 136)), none⟩,
⟨(.mv (.tmp (pth 0))), opAt P 77 18 2, (some (pth 137)), none⟩,
⟨(.mv (.tmp (pth 11))), opAt P 77 18 3, (some (pth 138)), none⟩,
⟨(.mv (.tmp (pth 0))), opAt P 77 18 4, (some (pth 139)), none⟩,
⟨(.mv (.tmp (pth 11))), opAt P 77 18 5, (some (pth 140)), none⟩,
⟨(.ia (.tmp (pth 139)) (.tmp (pth 140)) 1), opAt P 77 18 6, (some (pth 141)), none⟩,
⟨(.ld 9 (.tmp (pth 141))), opAt P 77 18 7, (some (pth 142)), none⟩,
⟨(.mv (.tmp (pth 0))), opAt P 77 18 8, (some (pth 143)), none⟩,
⟨(.mv (.tmp (pth 10))), opAt P 77 18 9, (some (pth 144)), none⟩,
⟨(.ia (.tmp (pth 143)) (.tmp (pth 144)) 1), opAt P 77 18 10, (some (pth 145)), none⟩,
⟨(.ld 9 (.tmp (pth 145))), opAt P 77 18 11, (some (pth 146)), none⟩,
⟨(.ia (.tmp (pth 135)) (.tmp (pth 136)) 1), opAt P 77 18 12, (some (pth 147)), none⟩,
⟨(.st 9 (.tmp (pth 147)) (.tmp (pth 142))), opAt P 77 18 13, none, none⟩,
⟨(.ia (.tmp (pth 137)) (.tmp (pth 138)) 1), opAt P 77 18 14, (some (pth 148)), none⟩,
⟨(.st 9 (.tmp (pth 148)) (.tmp (pth 146))), opAt P 77 18 15, none, none⟩] [(7, 11)])
(.seq (.seqr [⟨(.mv (.tmp (pth 10))), opAt P 77 19 0, (some (pth 149)), none⟩,
⟨(.bin .add (.tmp (pth 149)) (.val (.int .i64 (1)))), opAt P 77 19 1, (some (pth 150)), none⟩,
⟨(.mv (.tmp (pth 150))), opAt P 77 19 2, (some (pth 10)), none⟩])
(.seqr [⟨(.mv (.tmp (pth 11))), opAt P 77 20 0, (some (pth 151)), none⟩,
⟨(.bin .sub (.tmp (pth 151)) (.val (.int .i64 (1)))), opAt P 77 20 1, (some (pth 152)), none⟩,
⟨(.mv (.tmp (pth 152))), opAt P 77 20 2, (some (pth 11)), none⟩])))))))))
(.seq (.reg [⟨(.mv (.tmp (pth 0))), opAt P 77 21 0, (some (pth 153)), none⟩,
⟨(.mv (.tmp (pth 11))), opAt P 77 21 1, (some (pth 154)), none⟩,
⟨(.mv (.tmp (pth 0))), opAt P 77 21 2, (some (pth 155)), none⟩,
⟨(.mv (.tmp (pth 1))), opAt P 77 21 3, (some (pth 156)), none⟩,
⟨(.mv (.tmp (pth 0))), opAt P 77 21 4, (some (pth 157)), none⟩,
⟨(.mv (.tmp (pth 1))), opAt P 77 21 5, (some (pth 158)), none⟩,
⟨(.ia (.tmp (pth 157)) (.tmp (pth 158)) 1), opAt P 77 21 6, (some (pth 159)), none⟩,
⟨(.ld 9 (.tmp (pth 159))), opAt P 77 21 7, (some (pth 160)), none⟩,
⟨(.mv (.tmp (pth 0))), opAt P 77 21 8, (some (pth 161)), none⟩,
⟨(.mv (.tmp (pth 11))), opAt P 77 21 9, (some (pth 162)), none⟩,
⟨(.ia (.tmp (pth 161)) (.tmp (pth 162)) 1), opAt P 77 21 10, (some (pth 163)), none⟩,
⟨(.ld 9 (.tmp (pth 163))), opAt P 77 21 11, (some (pth 164)), none⟩,
⟨(.ia (.tmp (pth 153)) (.tmp (pth 154)) 1), opAt P 77 21 12, (some (pth 165)), none⟩,
⟨(.st 9 (.tmp (pth 165)) (.tmp (pth 160))), opAt P 77 21 13, none, none⟩,
⟨(.ia (.tmp (pth 155)) (.tmp (pth 156)) 1), opAt P 77 21 14, (some (pth 166)), none⟩,
⟨(.st 9 (.tmp (pth 166)) (.tmp (pth 164))), opAt P 77 21 15, none, none⟩] [(7, 11)])
(.seq (.seqr [⟨(.mv (.tmp (pth 11))), opAt P 77 22 0, (some (pth 167)), none⟩,
⟨(.mv (.tmp (pth 167))), opAt P 77 22 1, (some (pth 8)), none⟩,
⟨(.mv (.val (.bool false))), opAt P 77 22 2, (some (pth 9)), none⟩])
.ret)))))))))))), [.tmp (pth 8), .tmp (pth 9)]⟩
theorem cf77_ok : cFn Tryd.prog 77 = some (cf77 Tryd.prog) := by kernel_rfl
def cf78 (P : Program) : FF := ⟨19, (.seq (.seqr [⟨(.mv (.val (.int .i64 (0)))), opAt P 78 0 0, (some (pth 2)), none⟩])
(.seq (.seq (.seqr [⟨(.mv (.tmp (pth 0))), opAt P 78 1 0, (some (pth 3)), none⟩,
⟨(.bin .geq (.tmp (pth 3)) (.val (.int .u32 (65536)))), opAt P 78 1 1, (some (pth 4)), none⟩])
(.cond (.tmp (pth 4)) (.seq (.seqr [⟨(.mv (.tmp (pth 0))), opAt P 78 2 0, (some (pth 5)), none⟩,
⟨(.bin .shr (.tmp (pth 5)) (.val (.int .u64 (16)))), opAt P 78 2 1, (some (pth 6)), none⟩,
⟨(.mv (.tmp (pth 6))), opAt P 78 2 2, (some (pth 0)), none⟩])
(.seqr [⟨(.mv (.val (.int .i64 (16)))), opAt P 78 3 0, (some (pth 2)), none⟩]))
.skip))
(.seq (.seq (.seqr [⟨(.mv (.tmp (pth 0))), opAt P 78 4 0, (some (pth 7)), none⟩,
⟨(.bin .geq (.tmp (pth 7)) (.val (.int .u32 (256)))), opAt P 78 4 1, (some (pth 8)), none⟩])
(.cond (.tmp (pth 8)) (.seq (.seqr [⟨(.mv (.tmp (pth 0))), opAt P 78 5 0, (some (pth 9)), none⟩,
⟨(.bin .shr (.tmp (pth 9)) (.val (.int .u64 (8)))), opAt P 78 5 1, (some (pth 10)), none⟩,
⟨(.mv (.tmp (pth 10))), opAt P 78 5 2, (some (pth 0)), none⟩])
(.seqr [⟨(.mv (.tmp (pth 2))), opAt P 78 6 0, (some (pth 11)), none⟩,
⟨(.bin .add (.tmp (pth 11)) (.val (.int .i64 (8)))), opAt P 78 6 1, (some (pth 12)), none⟩,
⟨(.mv (.tmp (pth 12))), opAt P 78 6 2, (some (pth 2)), none⟩]))
.skip))
(.seq (.seqr [⟨(.mv (.tmp (pth 2))), opAt P 78 7 0, (some (pth 13)), none⟩,
⟨(.mv (.tmp (pth 0))), opAt P 78 7 1, (some (pth 14)), none⟩,
⟨.slow, opAt P 78 7 2, (some (pth 15)), none⟩,
⟨.slow, opAt P 78 7 3, (some (pth 16)), none⟩,
⟨.slow, opAt P 78 7 4, (some (pth 17)), none⟩,
⟨(.bin .add (.tmp (pth 13)) (.tmp (pth 17))), opAt P 78 7 5, (some (pth 18)), none⟩,
⟨(.mv (.tmp (pth 18))), opAt P 78 7 6, (some (pth 2)), none⟩])
.ret)))), [.tmp (pth 2)]⟩
theorem cf78_ok : cFn Tryd.prog 78 = some (cf78 Tryd.prog) := by kernel_rfl
def cf79 (P : Program) : FF := ⟨25, (.seq (.seqr [⟨(.mv (.val (.int .i64 (0)))), opAt P 79 0 0, (some (pth 2)), none⟩])
(.seq (.seq (.seqr [⟨(.mv (.tmp (pth 0))), opAt P 79 1 0, (some (pth 3)), none⟩,
⟨(.bin .geq (.tmp (pth 3)) (.val (.int .u64 (4294967296)))), opAt P 79 1 1, (some (pth 4)), none⟩])
(.cond (.tmp (pth 4)) (.seq (.seqr [⟨(.mv (.tmp (pth 0))), opAt P 79 2 0, (some (pth 5)), none⟩,
⟨(.bin .shr (.tmp (pth 5)) (.val (.int .u64 (32)))), opAt P 79 2 1, (some (pth 6)), none⟩,
⟨(.mv (.tmp (pth 6))), opAt P 79 2 2, (some (pth 0)), none⟩])
(.seqr [⟨(.mv (.val (.int .i64 (32)))), opAt P 79 3 0, (some (pth 2)), none⟩]))
.skip))
(.seq (.seq (.seqr [⟨(.mv (.tmp (pth 0))), opAt P 79 4 0, (some (pth 7)), none⟩,
⟨(.bin .geq (.tmp (pth 7)) (.val (.int .u64 (65536)))), opAt P 79 4 1, (some (pth 8)), none⟩])
(.cond (.tmp (pth 8)) (.seq (.seqr [⟨(.mv (.tmp (pth 0))), opAt P 79 5 0, (some (pth 9)), none⟩,
⟨(.bin .shr (.tmp (pth 9)) (.val (.int .u64 (16)))), opAt P 79 5 1, (some (pth 10)), none⟩,
⟨(.mv (.tmp (pth 10))), opAt P 79 5 2, (some (pth 0)), none⟩])
(.seqr [⟨(.mv (.tmp (pth 2))), opAt P 79 6 0, (some (pth 11)), none⟩,
⟨(.bin .add (.tmp (pth 11)) (.val (.int .i64 (16)))), opAt P 79 6 1, (some (pth 12)), none⟩,
⟨(.mv (.tmp (pth 12))), opAt P 79 6 2, (some (pth 2)), none⟩]))
.skip))
(.seq (.seq (.seqr [⟨(.mv (.tmp (pth 0))), opAt P 79 7 0, (some (pth 13)), none⟩,
⟨(.bin .geq (.tmp (pth 13)) (.val (.int .u64 (256)))), opAt P 79 7 1, (some (pth 14)), none⟩])
(.cond (.tmp (pth 14)) (.seq (.seqr [⟨(.mv (.tmp (pth 0))), opAt P 79 8 0, (some (pth 15)), none⟩,
⟨(.bin .shr (.tmp (pth 15)) (.val (.int .u64 (8)))), opAt P 79 8 1, (some (pth 16)), none⟩,
⟨(.mv (.tmp (pth 16))), opAt P 79 8 2, (some (pth 0)), none⟩])
(.seqr [⟨(.mv (.tmp (pth 2))), opAt P 79 9 0, (some (pth 17)), none⟩,
⟨(.bin .add (.tmp (pth 17)) (.val (.int .i64 (8)))), opAt P 79 9 1, (some (pth 18)), none⟩,
⟨(.mv (.tmp (pth 18))), opAt P 79 9 2, (some (pth 2)), none⟩]))
.skip))
(.seq (.seqr [⟨(.mv (.tmp (pth 2))), opAt P 79 10 0, (some (pth 19)), none⟩,
⟨(.mv (.tmp (pth 0))), opAt P 79 10 1, (some (pth 20)), none⟩,
⟨.slow, opAt P 79 10 2, (some (pth 21)), none⟩,
⟨.slow, opAt P 79 10 3, (some (pth 22)), none⟩,
⟨.slow, opAt P 79 10 4, (some (pth 23)), none⟩,
⟨(.bin .add (.tmp (pth 19)) (.tmp (pth 23))), opAt P 79 10 5, (some (pth 24)), none⟩,
⟨(.mv (.tmp (pth 24))), opAt P 79 10 6, (some (pth 2)), none⟩])
.ret))))), [.tmp (pth 2)]⟩
theorem cf79_ok : cFn Tryd.prog 79 = some (cf79 Tryd.prog) := by kernel_rfl
def cf80 (P : Program) : FF := ⟨76, (.seq (.seqr [⟨(.mv (.tmp (pth 1))), opAt P 80 0 0, (some (pth 10)), none⟩,
⟨(.mv (.tmp (pth 10))), opAt P 80 0 1, (some (pth 8)), none⟩])
(.block 0 (.loop (.block 1 (.seq (.seqr [⟨(.mv (.tmp (pth 8))), opAt P 80 1 0, (some (pth 11)), none⟩,
⟨(.bin .mul (.val (.int .i64 (2))) (.tmp (pth 11))), opAt P 80 1 1, (some (pth 12)), none⟩,
⟨(.bin .add (.tmp (pth 12)) (.val (.int .i64 (1)))), opAt P 80 1 2, (some (pth 13)), none⟩,
⟨(.mv (.tmp (pth 13))), opAt P 80 1 3, (some (pth 9)), none⟩])
(.seq (.seq (.seqr [⟨(.mv (.tmp (pth 9))), opAt P 80 2 0, (some (pth 14)), none⟩,
⟨(.mv (.tmp (pth 2))), opAt P 80 2 1, (some (pth 15)), none⟩,
⟨(.bin .geq (.tmp (pth 14)) (.tmp (pth 15))), opAt P 80 2 2, (some (pth 16)), none⟩])
(.cond (.tmp (pth 16)) (.exit 0)
.skip))
(.seq (.seq (.reg [⟨(.mv (.tmp (pth 9))), opAt P 80 3 0, (some (pth 17)), none⟩,
⟨(.bin .add (.tmp (pth 17)) (.val (.int .i64 (1)))), opAt P 80 3 1, (some (pth 18)), none⟩,
⟨(.mv (.tmp (pth 2))), opAt P 80 3 2, (some (pth 19)), none⟩,
⟨(.bin .lss (.tmp (pth 18)) (.tmp (pth 19))), opAt P 80 3 3, (some (pth 20)), none⟩,
⟨(.mv (.tmp (pth 20))), opAt P 80 3 4, (some (pth 21)), none⟩,
⟨(.mv (.tmp (pth 0))), opAt P 80 3 5, (some (pth 22)), (some ((pth 21), true))⟩,
⟨(.mv (.tmp (pth 3))), opAt P 80 3 6, (some (pth 23)), (some ((pth 21), true))⟩,
⟨(.mv (.tmp (pth 9))), opAt P 80 3 7, (some (pth 24)), (some ((pth 21), true))⟩,
⟨(.bin .add (.tmp (pth 23)) (.tmp (pth 24))), opAt P 80 3 8, (some (pth 25)), (some ((pth 21), true))⟩,
⟨(.ia (.tmp (pth 22)) (.tmp (pth 25)) 1), opAt P 80 3 9, (some (pth 26)), (some ((pth 21), true))⟩,
⟨(.ld 9 (.tmp (pth 26))), opAt P 80 3 10, (some (pth 27)), (some ((pth 21), true))⟩,
⟨(.mv (.tmp (pth 0))), opAt P 80 3 11, (some (pth 28)), (some ((pth 21), true))⟩,
⟨(.mv (.tmp (pth 3))), opAt P 80 3 12, (some (pth 29)), (some ((pth 21), true))⟩,
⟨(.mv (.tmp (pth 9))), opAt P 80 3 13, (some (pth 30)), (some ((pth 21), true))⟩,
⟨(.bin .add (.tmp (pth 29)) (.tmp (pth 30))), opAt P 80 3 14, (some (pth 31)), (some ((pth 21), true))⟩,
⟨(.bin .add (.tmp (pth 31)) (.val (.int .i64 (1)))), opAt P 80 3 15, (some (pth 32)), (some ((pth 21), true))⟩,
⟨(.ia (.tmp (pth 28)) (.tmp (pth 32)) 1), opAt P 80 3 16, (some (pth 33)), (some ((pth 21), true))⟩,
⟨(.ld 9 (.tmp (pth 33))), opAt P 80 3 17, (some (pth 34)), (some ((pth 21), true))⟩,
⟨(.call 75 [(.tmp (pth 27)), (.tmp (pth 34))]), opAt P 80 3 18, (some (pth 35)), (some ((pth 21), true))⟩,
⟨(.pick (.tmp (pth 21)) (.tmp (pth 35)) (.val (.bool false))), opAt P 80 3 19, (some (pth 36)), none⟩] [(8, 14), (10, 14), (8, 15), (10, 15), (8, 17), (10, 17)])
(.cond (.tmp (pth 36)) (.seqr [⟨(.mv (.tmp (pth 9))), opAt P 80 4 0, (some (pth 37)), none⟩,
⟨(.bin .add (.tmp (pth 37)) (.val (.int .i64 (1)))), opAt P 80 4 1, (some (pth 38)), none⟩,
⟨(.mv (.tmp (pth 38))), opAt P 80 4 2, (some (pth 9)), none⟩])
.skip))
(.seq (.seq (.reg [⟨(.mv (.tmp (pth 0))), opAt P 80 5 0, (some (pth 39)), none⟩,
⟨(.mv (.tmp (pth 3))), opAt P 80 5 1, (some (pth 40)), none⟩,
⟨(.mv (.tmp (pth 8))), opAt P 80 5 2, (some (pth 41)), none⟩,
⟨(.bin .add (.tmp (pth 40)) (.tmp (pth 41))), opAt P 80 5 3, (some (pth 42)), none⟩,
⟨(.ia (.tmp (pth 39)) (.tmp (pth 42)) 1), opAt P 80 5 4, (some (pth 43)), none⟩,
⟨(.ld 9 (.tmp (pth 43))), opAt P 80 5 5, (some (pth 44)), none⟩,
⟨(.mv (.tmp (pth 0))), opAt P 80 5 6, (some (pth 45)), none⟩,
⟨(.mv (.tmp (pth 3))), opAt P 80 5 7, (some (pth 46)), none⟩,
⟨(.mv (.tmp (pth 9))), opAt P 80 5 8, (some (pth 47)), none⟩,
⟨(.bin .add (.tmp (pth 46)) (.tmp (pth 47))), opAt P 80 5 9, (some (pth 48)), none⟩,
⟨(.ia (.tmp (pth 45)) (.tmp (pth 48)) 1), opAt P 80 5 10, (some (pth 49)), none⟩,
⟨(.ld 9 (.tmp (pth 49))), opAt P 80 5 11, (some (pth 50)), none⟩,
⟨(.call 75 [(.tmp (pth 44)), (.tmp (pth 50))]), opAt P 80 5 12, (some (pth 51)), none⟩,
⟨(.un .not (.tmp (pth 51))), opAt P 80 5 13, (some (pth 52)), none⟩] [(3, 9), (5, 9), (3, 11), (5, 11)])
(.cond (.tmp (pth 52)) .ret
.skip))
(.seq (.reg [⟨(.mv (.tmp (pth 0))), opAt P 80 6 0, (some (pth 53)), none⟩,
⟨(.mv (.tmp (pth 3))), opAt P 80 6 1, (some (pth 54)), none⟩,
⟨(.mv (.tmp (pth 8))), opAt P 80 6 2, (some (pth 55)), none⟩,
⟨(.bin .add (.tmp (pth 54)) (.tmp (pth 55))), opAt P 80 6 3, (some (pth 56)), none⟩,
⟨(.mv (.tmp (pth 0))), opAt P 80 6 4, (some (pth 57)), none⟩,
⟨(.mv (.tmp (pth 3))), opAt P 80 6 5, (some (pth 58)), none⟩,
⟨(.mv (.tmp (pth 9))), opAt P 80 6 6, (some (pth 59)), none⟩,
⟨(.bin .add (.tmp (pth 58)) (.tmp (pth 59))), opAt P 80 6 7, (some (pth 60)), none⟩,
⟨(.mv (.tmp (pth 0))), opAt P 80 6 8, (some (pth 61)), none⟩,
⟨(.mv (.tmp (pth 3))), opAt P 80 6 9, (some (pth 62)), none⟩,
⟨(.mv (.tmp (pth 9))), opAt P 80 6 10, (some (pth 63)), none⟩,
⟨(.bin .add (.tmp (pth 62)) (.tmp (pth 63))), opAt P 80 6 11, (some (pth 64)), none⟩,
⟨(.ia (.tmp (pth 61)) (.tmp (pth 64)) 1), opAt P 80 6 12, (some (pth 65)), none⟩,
⟨(.ld 9 (.tmp (pth 65))), opAt P 80 6 13, (some (pth 66)), none⟩,
⟨(.mv (.tmp (pth 0))), opAt P 80 6 14, (some (pth 67)), none⟩,
⟨(.mv (.tmp (pth 3))), opAt P 80 6 15, (some (pth 68)), none⟩,
⟨(.mv (.tmp (pth 8))), opAt P 80 6 16, (some (pth 69)), none⟩,
⟨(.bin .add (.tmp (pth 68)) (.tmp (pth 69))), opAt P 80 6 17, (some (pth 70)), none⟩,
⟨(.ia (.tmp (pth 67)) (.tmp (pth 70)) 1), opAt P 80 6 18, (some (pth 71)), none⟩,
⟨(.ld 9 (.tmp (pth 71))), opAt P 80 6 19, (some (pth 72)), none⟩,
⟨(.ia (.tmp (pth 53)) (.tmp (pth 56)) 1), opAt P 80 6 20, (some (pth 73)), none⟩,
⟨(.st 9 (.tmp (pth 73)) (.tmp (pth 66))), opAt P 80 6 21, none, none⟩,
⟨(.ia (.tmp (pth 57)) (.tmp (pth 60)) 1), opAt P 80 6 22, (some (pth 74)), none⟩,
⟨(.st 9 (.tmp (pth 74)) (.tmp (pth 72))), opAt P 80 6 23, none, none⟩] [(3, 7), (3, 11), (7, 11), (3, 13), (7, 13), (3, 17), (7, 17), (11, 17), (13, 17), (3, 19), (7, 19), (11, 19), (13, 19), (7, 21)])
(.seqr [⟨(.mv (.tmp (pth 9))), opAt P 80 7 0, (some (pth 75)), none⟩,
⟨(.mv (.tmp (pth 75))), opAt P 80 7 1, (some (pth 8)), none⟩])))))))))), []⟩
theorem cf80_ok : cFn Tryd.prog 80 = some (cf80 Tryd.prog) := by kernel_rfl
def cf81 (P : Program) : FF := ⟨7, (.seq (.seqr [⟨(.mv (.val (.int .u64 (0)))), opAt P 81 0 0, (some (pth 2)), none⟩])
(.seq (.seqr [⟨(.mv (.tmp (pth 0))), opAt P 81 1 0, (some (pth 3)), none⟩,
⟨.slow, opAt P 81 1 1, (some (pth 4)), none⟩,
⟨(.call 68 [(.tmp (pth 4))]), opAt P 81 1 2, (some (pth 5)), none⟩,
⟨(.bin .shl (.val (.int .u64 (1))) (.tmp (pth 5))), opAt P 81 1 3, (some (pth 6)), none⟩,
⟨(.mv (.tmp (pth 6))), opAt P 81 1 4, (some (pth 2)), none⟩])
.ret)), [.tmp (pth 2)]⟩
theorem cf81_ok : cFn Tryd.prog 81 = some (cf81 Tryd.prog) := by kernel_rfl
def cf82 (P : Program) : FF := ⟨33, (.seq (.seqr [⟨(.mv (.val (.int .u64 (0)))), opAt P 82 0 0, (some (pth 2)), none⟩])
(.seq (.reg [⟨(.mv (.tmp (pth 0))), opAt P 82 1 0, (some (pth 3)), none⟩,
⟨(.nc (.tmp (pth 3))), opAt P 82 1 1, (some (pth 4)), none⟩,
⟨(.ld 121 (.tmp (pth 4))), opAt P 82 1 2, (some (pth 5)), none⟩,
⟨(.mv (.tmp (pth 0))), opAt P 82 1 3, (some (pth 6)), none⟩,
⟨(.nc (.tmp (pth 6))), opAt P 82 1 4, (some (pth 7)), none⟩,
⟨(.ld 121 (.tmp (pth 7))), opAt P 82 1 5, (some (pth 8)), none⟩,
⟨(.bin .shl (.tmp (pth 8)) (.val (.int .u64 (13)))), opAt P 82 1 6, (some (pth 9)), none⟩,
⟨(.bin .xor (.tmp (pth 5)) (.tmp (pth 9))), opAt P 82 1 7, (some (pth 10)), none⟩,
⟨(.nc (.tmp (pth 3))), opAt P 82 1 8, (some (pth 11)), none⟩,
⟨(.st 121 (.tmp (pth 11)) (.tmp (pth 10))), opAt P 82 1 9, none, none⟩] [(2, 5), (2, 6)])
(.seq (.reg [⟨(.mv (.tmp (pth 0))), opAt P 82 2 0, (some (pth 12)), none⟩,
⟨(.nc (.tmp (pth 12))), opAt P 82 2 1, (some (pth 13)), none⟩,
⟨(.ld 121 (.tmp (pth 13))), opAt P 82 2 2, (some (pth 14)), none⟩,
⟨(.mv (.tmp (pth 0))), opAt P 82 2 3, (some (pth 15)), none⟩,
⟨(.nc (.tmp (pth 15))), opAt P 82 2 4, (some (pth 16)), none⟩,
⟨(.ld 121 (.tmp (pth 16))), opAt P 82 2 5, (some (pth 17)), none⟩,
⟨(.bin .shr (.tmp (pth 17)) (.val (.int .u64 (7)))), opAt P 82 2 6, (some (pth 18)), none⟩,
⟨(.bin .xor (.tmp (pth 14)) (.tmp (pth 18))), opAt P 82 2 7, (some (pth 19)), none⟩,
⟨(.nc (.tmp (pth 12))), opAt P 82 2 8, (some (pth 20)), none⟩,
⟨(.st 121 (.tmp (pth 20)) (.tmp (pth 19))), opAt P 82 2 9, none, none⟩] [(2, 5), (2, 6)])
(.seq (.reg [⟨(.mv (.tmp (pth 0))), opAt P 82 3 0, (some (pth 21)), none⟩,
⟨(.nc (.tmp (pth 21))), opAt P 82 3 1, (some (pth 22)), none⟩,
⟨(.ld 121 (.tmp (pth 22))), opAt P 82 3 2, (some (pth 23)), none⟩,
⟨(.mv (.tmp (pth 0))), opAt P 82 3 3, (some (pth 24)), none⟩,
⟨(.nc (.tmp (pth 24))), opAt P 82 3 4, (some (pth 25)), none⟩,
⟨(.ld 121 (.tmp (pth 25))), opAt P 82 3 5, (some (pth 26)), none⟩,
⟨(.bin .shl (.tmp (pth 26)) (.val (.int .u64 (17)))), opAt P 82 3 6, (some (pth 27)), none⟩,
⟨(.bin .xor (.tmp (pth 23)) (.tmp (pth 27))), opAt P 82 3 7, (some (pth 28)), none⟩,
⟨(.nc (.tmp (pth 21))), opAt P 82 3 8, (some (pth 29)), none⟩,
⟨(.st 121 (.tmp (pth 29)) (.tmp (pth 28))), opAt P 82 3 9, none, none⟩] [(2, 5), (2, 6)])
(.seq (.seqr [⟨(.mv (.tmp (pth 0))), opAt P 82 4 0, (some (pth 30)), none⟩,
⟨(.nc (.tmp (pth 30))), opAt P 82 4 1, (some (pth 31)), none⟩,
⟨(.ld 121 (.tmp (pth 31))), opAt P 82 4 2, (some (pth 32)), none⟩,
⟨(.mv (.tmp (pth 32))), opAt P 82 4 3, (some (pth 2)), none⟩])
.ret))))), [.tmp (pth 2)]⟩
theorem cf82_ok : cFn Tryd.prog 82 = some (cf82 Tryd.prog) := by kernel_rfl
def cf83 (P : Program) : FF := ⟨15, (.seq (.seqr [⟨(.mv (.val (.int .i64 (0)))), opAt P 83 0 0, (some (pth 6)), none⟩])
(.seq (.seqr [⟨(.mv (.tmp (pth 0))), opAt P 83 1 0, (some (pth 7)), none⟩,
⟨(.mv (.tmp (pth 1))), opAt P 83 1 1, (some (pth 8)), none⟩,
⟨(.bin .sub (.tmp (pth 8)) (.val (.int .i64 (1)))), opAt P 83 1 2, (some (pth 9)), none⟩,
⟨(.mv (.tmp (pth 1))), opAt P 83 1 3, (some (pth 10)), none⟩,
⟨(.mv (.tmp (pth 1))), opAt P 83 1 4, (some (pth 11)), none⟩,
⟨(.bin .add (.tmp (pth 11)) (.val (.int .i64 (1)))), opAt P 83 1 5, (some (pth 12)), none⟩,
⟨(.mv (.tmp (pth 2))), opAt P 83 1 6, (some (pth 13)), none⟩,
⟨(.call 84 [(.tmp (pth 7)), (.tmp (pth 9)), (.tmp (pth 10)), (.tmp (pth 12)), (.tmp (pth 13))]), opAt P 83 1 7, (some (pth 14)), none⟩,
⟨(.mv (.tmp (pth 14))), opAt P 83 1 8, (some (pth 6)), none⟩])
.ret)), [.tmp (pth 6)]⟩
theorem cf83_ok : cFn Tryd.prog 83 = some (cf83 Tryd.prog) := by kernel_rfl
def cf84 (P : Program) : FF := ⟨36, (.seq (.seqr [⟨(.mv (.val (.int .i64 (0)))), opAt P 84 0 0, (some (pth 10)), none⟩])
(.seq (.seqr [⟨(.mv (.tmp (pth 0))), opAt P 84 1 0, (some (pth 12)), none⟩,
⟨(.mv (.tmp (pth 1))), opAt P 84 1 1, (some (pth 13)), none⟩,
⟨(.mv (.tmp (pth 2))), opAt P 84 1 2, (some (pth 14)), none⟩,
⟨(.mv (.tmp (pth 4))), opAt P 84 1 3, (some (pth 15)), none⟩,
⟨(.call 86 [(.tmp (pth 12)), (.tmp (pth 13)), (.tmp (pth 14)), (.tmp (pth 15))]), opAt P 84 1 4, (some (pth 16)), none⟩,
⟨(.mv (.tmp (pth 16))), opAt P 84 1 5, (some (pth 11)), none⟩,
⟨(.ext (.tmp (pth 11)) 0), opAt P 84 1 6, (some (pth 17)), none⟩,
⟨(.ext (.tmp (pth 11)) 1), opAt P 84 1 7, (some (pth 18)), none⟩,
⟨(.mv (.tmp (pth 17))), opAt P 84 1 8, (some (pth 1)), none⟩,
⟨(.mv (.tmp (pth 18))), opAt P 84 1 9, (some (pth 2)), none⟩])
(.seq (.seqr [⟨(.mv (.tmp (pth 0))), opAt P 84 2 0, (some (pth 20)), none⟩,
⟨(.mv (.tmp (pth 2))), opAt P 84 2 1, (some (pth 21)), none⟩,
⟨(.mv (.tmp (pth 3))), opAt P 84 2 2, (some (pth 22)), none⟩,
⟨(.mv (.tmp (pth 4))), opAt P 84 2 3, (some (pth 23)), none⟩,
⟨(.call 86 [(.tmp (pth 20)), (.tmp (pth 21)), (.tmp (pth 22)), (.tmp (pth 23))]), opAt P 84 2 4, (some (pth 24)), none⟩,
⟨(.mv (.tmp (pth 24))), opAt P 84 2 5, (some (pth 19)), none⟩,
⟨(.ext (.tmp (pth 19)) 0), opAt P 84 2 6, (some (pth 25)), none⟩,
⟨(.ext (.tmp (pth 19)) 1), opAt P 84 2 7, (some (pth 26)), none⟩,
⟨(.mv (.tmp (pth 25))), opAt P 84 2 8, (some (pth 2)), none⟩,
⟨(.mv (.tmp (pth 26))), opAt P 84 2 9, (some (pth 3)), none⟩])
(.seq (.seqr [⟨(.mv (.tmp (pth 0))), opAt P 84 3 0, (some (pth 28)), none⟩,
⟨(.mv (.tmp (pth 1))), opAt P 84 3 1, (some (pth 29)), none⟩,
⟨(.mv (.tmp (pth 2))), opAt P 84 3 2, (some (pth 30)), none⟩,
⟨(.mv (.tmp (pth 4))), opAt P 84 3 3, (some (pth 31)), none⟩,
⟨(.call 86 [(.tmp (pth 28)), (.tmp (pth 29)), (.tmp (pth 30)), (.tmp (pth 31))]), opAt P 84 3 4, (some (pth 32)), none⟩,
⟨(.mv (.tmp (pth 32))), opAt P 84 3 5, (some (pth 27)), none⟩,
⟨(.ext (.tmp (pth 27)) 0), opAt P 84 3 6, (some (pth 33)), none⟩,
⟨(.ext (.tmp (pth 27)) 1), opAt P 84 3 7, (some (pth 34)), none⟩,
⟨(.mv (.tmp (pth 33))), opAt P 84 3 8, (some (pth 1)), none⟩,
⟨(.mv (.tmp (pth 34))), opAt P 84 3 9, (some (pth 2)), none⟩])
(.seq (.seqr [⟨(.mv (.tmp (pth 2))), opAt P 84 4 0, (some (pth 35)), none⟩,
⟨(.mv (.tmp (pth 35))), opAt P 84 4 1, (some (pth 10)), none⟩])
.ret))))), [.tmp (pth 10)]⟩
theorem cf84_ok : cFn Tryd.prog 84 = some (cf84 Tryd.prog) := by kernel_rfl
def cf85 (P : Program) : FF := ⟨6, (.seq (.seqr [⟨(.mv (.val (.bool false))), opAt P 85 0 0, (some (pth 2)), none⟩])
(.seq (.seqr [⟨(.mv (.tmp (pth 0))), opAt P 85 1 0, (some (pth 3)), none⟩,
⟨(.mv (.tmp (pth 0))), opAt P 85 1 1, (some (pth 4)), none⟩,
⟨(.bin .neq (.tmp (pth 3)) (.tmp (pth 4))), opAt P 85 1 2, (some (pth 5)), none⟩,
⟨(.mv (.tmp (pth 5))), opAt P 85 1 3, (some (pth 2)), none⟩])
.ret)), [.tmp (pth 2)]⟩
theorem cf85_ok : cFn Tryd.prog 85 = some (cf85 Tryd.prog) := by kernel_rfl
def cf86 (P : Program) : FF := ⟨28, (.seq (.seqr [⟨(.mv (.val (.int .i64 (0)))), opAt P 86 0 0, (some (pth 8)), none⟩,
⟨(.mv (.val (.int .i64 (0)))), opAt P 86 0 1, (some (pth 9)), none⟩])
(.seq (.seq (.reg [⟨(.mv (.tmp (pth 0))), opAt P 86 1 0, (some (pth 10)), none⟩,
⟨(.mv (.tmp (pth 2))), opAt P 86 1 1, (some (pth 11)), none⟩,
⟨(.ia (.tmp (pth 10)) (.tmp (pth 11)) 1), opAt P 86 1 2, (some (pth 12)), none⟩,
⟨(.ld 9 (.tmp (pth 12))), opAt P 86 1 3, (some (pth 13)), none⟩,
⟨(.mv (.tmp (pth 0))), opAt P 86 1 4, (some (pth 14)), none⟩,
⟨(.mv (.tmp (pth 1))), opAt P 86 1 5, (some (pth 15)), none⟩,
⟨(.ia (.tmp (pth 14)) (.tmp (pth 15)) 1), opAt P 86 1 6, (some (pth 16)), none⟩,
⟨(.ld 9 (.tmp (pth 16))), opAt P 86 1 7, (some (pth 17)), none⟩,
⟨(.call 75 [(.tmp (pth 13)), (.tmp (pth 17))]), opAt P 86 1 8, (some (pth 18)), none⟩] [(3, 7)])
(.cond (.tmp (pth 18)) (.seq (.seqr [⟨(.mv (.tmp (pth 3))), opAt P 86 2 0, (some (pth 19)), none⟩,
⟨(.nc (.tmp (pth 19))), opAt P 86 2 1, (some (pth 20)), none⟩,
⟨(.ld 3 (.tmp (pth 20))), opAt P 86 2 2, (some (pth 21)), none⟩,
⟨(.bin .add (.tmp (pth 21)) (.val (.int .i64 (1)))), opAt P 86 2 3, (some (pth 22)), none⟩,
⟨(.nc (.tmp (pth 19))), opAt P 86 2 4, (some (pth 23)), none⟩,
⟨(.st 3 (.tmp (pth 23)) (.tmp (pth 22))), opAt P 86 2 5, none, none⟩])
(.seq (.seqr [⟨(.mv (.tmp (pth 2))), opAt P 86 3 0, (some (pth 24)), none⟩,
⟨(.mv (.tmp (pth 1))), opAt P 86 3 1, (some (pth 25)), none⟩,
⟨(.mv (.tmp (pth 24))), opAt P 86 3 2, (some (pth 8)), none⟩,
⟨(.mv (.tmp (pth 25))), opAt P 86 3 3, (some (pth 9)), none⟩])
.ret))
.skip))
(.seq (.seqr [⟨(.mv (.tmp (pth 1))), opAt P 86 4 0, (some (pth 26)), none⟩,
⟨(.mv (.tmp (pth 2))), opAt P 86 4 1, (some (pth 27)), none⟩,
⟨(.mv (.tmp (pth 26))), opAt P 86 4 2, (some (pth 8)), none⟩,
⟨(.mv (.tmp (pth 27))), opAt P 86 4 3, (some (pth 9)), none⟩])
.ret))), [.tmp (pth 8), .tmp (pth 9)]⟩
theorem cf86_ok : cFn Tryd.prog 86 = some (cf86 Tryd.prog) := by kernel_rfl
def ctL (P : Program) : List (Nat × FF) := [(3, cf3 P), (4, cf4 P), (5, cf5 P), (6, cf6 P), (7, cf7 P), (8, cf8 P), (9, cf9 P), (10, cf10 P), (11, cf11 P), (12, cf12 P), (13, cf13 P), (14, cf14 P), (15, cf15 P), (16, cf16 P), (17, cf17 P), (18, cf18 P), (19, cf19 P), (20, cf20 P), (21, cf21 P), (22, cf22 P), (23, cf23 P), (24, cf24 P), (25, cf25 P), (26, cf26 P), (27, cf27 P), (28, cf28 P), (29, cf29 P), (30, cf30 P), (31, cf31 P), (32, cf32 P), (33, cf33 P), (34, cf34 P), (35, cf35 P), (36, cf36 P), (37, cf37 P), (38, cf38 P), (39, cf39 P), (40, cf40 P), (41, cf41 P), (42, cf42 P), (43, cf43 P), (44, cf44 P), (45, cf45 P), (46, cf46 P), (47, cf47 P), (48, cf48 P), (49, cf49 P), (50, cf50 P), (51, cf51 P), (52, cf52 P), (53, cf53 P), (54, cf54 P), (55, cf55 P), (56, cf56 P), (57, cf57 P), (58, cf58 P), (59, cf59 P), (60, cf60 P), (61, cf61 P), (62, cf62 P), (63, cf63 P), (64, cf64 P), (65, cf65 P), (66, cf66 P), (67, cf67 P), (68, cf68 P), (69, cf69 P), (70, cf70 P), (71, cf71 P), (72, cf72 P), (73, cf73 P), (74, cf74 P), (75, cf75 P), (76, cf76 P), (77, cf77 P), (78, cf78 P), (79, cf79 P), (80, cf80 P), (81, cf81 P), (82, cf82 P), (83, cf83 P), (84, cf84 P), (85, cf85 P), (86, cf86 P)]
theorem ctL_ok : AllOK Tryd.prog (ctL Tryd.prog) := ⟨cf3_ok, ⟨cf4_ok, ⟨cf5_ok, ⟨cf6_ok, ⟨cf7_ok, ⟨cf8_ok, ⟨cf9_ok, ⟨cf10_ok, ⟨cf11_ok, ⟨cf12_ok, ⟨cf13_ok, ⟨cf14_ok, ⟨cf15_ok, ⟨cf16_ok, ⟨cf17_ok, ⟨cf18_ok, ⟨cf19_ok, ⟨cf20_ok, ⟨cf21_ok, ⟨cf22_ok, ⟨cf23_ok, ⟨cf24_ok, ⟨cf25_ok, ⟨cf26_ok, ⟨cf27_ok, ⟨cf28_ok, ⟨cf29_ok, ⟨cf30_ok, ⟨cf31_ok, ⟨cf32_ok, ⟨cf33_ok, ⟨cf34_ok, ⟨cf35_ok, ⟨cf36_ok, ⟨cf37_ok, ⟨cf38_ok, ⟨cf39_ok, ⟨cf40_ok, ⟨cf41_ok, ⟨cf42_ok, ⟨cf43_ok, ⟨cf44_ok, ⟨cf45_ok, ⟨cf46_ok, ⟨cf47_ok, ⟨cf48_ok, ⟨cf49_ok, ⟨cf50_ok, ⟨cf51_ok, ⟨cf52_ok, ⟨cf53_ok, ⟨cf54_ok, ⟨cf55_ok, ⟨cf56_ok, ⟨cf57_ok, ⟨cf58_ok, ⟨cf59_ok, ⟨cf60_ok, ⟨cf61_ok, ⟨cf62_ok, ⟨cf63_ok, ⟨cf64_ok, ⟨cf65_ok, ⟨cf66_ok, ⟨cf67_ok, ⟨cf68_ok, ⟨cf69_ok, ⟨cf70_ok, ⟨cf71_ok, ⟨cf72_ok, ⟨cf73_ok, ⟨cf74_ok, ⟨cf75_ok, ⟨cf76_ok, ⟨cf77_ok, ⟨cf78_ok, ⟨cf79_ok, ⟨cf80_ok, ⟨cf81_ok, ⟨cf82_ok, ⟨cf83_ok, ⟨cf84_ok, ⟨cf85_ok, ⟨cf86_ok, trivial⟩⟩⟩⟩⟩⟩⟩⟩⟩⟩⟩⟩⟩⟩⟩⟩⟩⟩⟩⟩⟩⟩⟩⟩⟩⟩⟩⟩⟩⟩⟩⟩⟩⟩⟩⟩⟩⟩⟩⟩⟩⟩⟩⟩⟩⟩⟩⟩⟩⟩⟩⟩⟩⟩⟩⟩⟩⟩⟩⟩⟩⟩⟩⟩⟩⟩⟩⟩⟩⟩⟩⟩⟩⟩⟩⟩⟩⟩⟩⟩⟩⟩⟩⟩
end Go.Proofs.YtpkfghaghodmpaaDoor
