/- The program's functions, made ready. -/
import Derived.Test.YtpkpgjmoeklgcaaDoorEvS
import Derived.Test.YtpkpgjmoeklgcaaDoorEvZc
namespace Go.Proofs.YtpkpgjmoeklgcaaDoor
set_option linter.unusedVariables false
set_option maxRecDepth 100000
def cf3 (P : Program) : FF := ⟨68, (.seq (.seqr [⟨.slow, opAt P 3 0 0, (some (pth 2)), none⟩,
⟨.slow, opAt P 3 0 1, (some (pth 3)), none⟩,
⟨(.mv (.val (.bool false))), opAt P 3 0 2, (some (pth 4)), none⟩])
(.seq (.seq (.seqr [⟨(.ld 25 (.tmp (pth 2))), opAt P 3 1 0, (some (pth 10)), none⟩,
⟨.slow, opAt P 3 1 1, (some (pth 11)), none⟩,
⟨(.call 4 [(.tmp (pth 11))]), opAt P 3 1 2, (some (pth 12)), none⟩,
⟨(.mv (.tmp (pth 12))), opAt P 3 1 3, (some (pth 13)), none⟩,
⟨(.fa (.tmp (pth 3)) 2), opAt P 3 1 4, (some (pth 14)), (some ((pth 13), false))⟩,
⟨(.ld 26 (.tmp (pth 14))), opAt P 3 1 5, (some (pth 15)), (some ((pth 13), false))⟩,
⟨.slow, opAt P 3 1 6, (some (pth 16)), (some ((pth 13), false))⟩,
⟨(.bin .gtr (.tmp (pth 16)) (.val (.int .i64 (300)))), opAt P 3 1 7, (some (pth 17)), (some ((pth 13), false))⟩,
⟨(.pick (.tmp (pth 13)) (.val (.bool true)) (.tmp (pth 17))), opAt P 3 1 8, (some (pth 18)), none⟩])
(.cond (.tmp (pth 18)) (.seq (.seqr [⟨(.mv (.val (.bool true))), opAt P 3 2 0, (some (pth 4)), none⟩])
.ret)
.skip))
(.seq (.seqr [⟨(.mv (.val (.pointer none))), opAt P 3 3 0, (some (pth 5)), none⟩])
(.seq (.seqr [⟨(.mv (.tmp (pth 5))), opAt P 3 4 0, (some (pth 20)), none⟩,
⟨(.ld 25 (.tmp (pth 2))), opAt P 3 4 1, (some (pth 21)), none⟩,
⟨(.call 5 [(.tmp (pth 20)), (.tmp (pth 21))]), opAt P 3 4 2, (some (pth 22)), none⟩,
⟨(.mv (.tmp (pth 22))), opAt P 3 4 3, (some (pth 19)), none⟩,
⟨(.ext (.tmp (pth 19)) 0), opAt P 3 4 4, (some (pth 23)), none⟩,
⟨(.ext (.tmp (pth 19)) 1), opAt P 3 4 5, (some (pth 24)), none⟩,
⟨.slow, opAt P 3 4 6, (some (pth 6)), none⟩,
⟨(.st 25 (.tmp (pth 6)) (.tmp (pth 23))), opAt P 3 4 7, none, none⟩,
⟨(.mv (.tmp (pth 24))), opAt P 3 4 8, (some (pth 7)), none⟩])
(.seq (.seqr [⟨(.mv (.tmp (pth 5))), opAt P 3 5 0, (some (pth 26)), none⟩,
⟨(.call 6 [(.tmp (pth 26))]), opAt P 3 5 1, (some (pth 27)), none⟩,
⟨(.mv (.tmp (pth 27))), opAt P 3 5 2, (some (pth 25)), none⟩,
⟨(.ext (.tmp (pth 25)) 0), opAt P 3 5 3, (some (pth 28)), none⟩,
⟨(.ext (.tmp (pth 25)) 1), opAt P 3 5 4, (some (pth 29)), none⟩,
⟨.slow, opAt P 3 5 5, (some (pth 8)), none⟩,
⟨(.st 25 (.tmp (pth 8)) (.tmp (pth 28))), opAt P 3 5 6, none, none⟩,
⟨(.mv (.tmp (pth 29))), opAt P 3 5 7, (some (pth 9)), none⟩])
(.seq (.seqr [⟨(.ld 25 (.tmp (pth 6))), opAt P 3 6 0, (some (pth 30)), none⟩,
⟨.slow, opAt P 3 6 1, (some (pth 31)), none⟩,
⟨(.bin .eql (.tmp (pth 30)) (.tmp (pth 31))), opAt P 3 6 2, (some (pth 32)), none⟩,
⟨(.mv (.tmp (pth 32))), opAt P 3 6 3, (some (pth 33)), none⟩,
⟨(.mv (.tmp (pth 7))), opAt P 3 6 4, (some (pth 34)), (some ((pth 33), true))⟩,
⟨(.bin .eql (.tmp (pth 34)) (.val (.int .i64 (1)))), opAt P 3 6 5, (some (pth 35)), (some ((pth 33), true))⟩,
⟨(.pick (.tmp (pth 33)) (.tmp (pth 35)) (.val (.bool false))), opAt P 3 6 6, (some (pth 36)), none⟩,
⟨(.mv (.tmp (pth 36))), opAt P 3 6 7, (some (pth 37)), none⟩,
⟨(.mv (.tmp (pth 5))), opAt P 3 6 8, (some (pth 38)), (some ((pth 37), true))⟩,
⟨(.call 7 [(.tmp (pth 38))]), opAt P 3 6 9, (some (pth 39)), (some ((pth 37), true))⟩,
⟨.slow, opAt P 3 6 10, (some (pth 40)), (some ((pth 37), true))⟩,
⟨(.bin .eql (.tmp (pth 40)) (.val (.int .i64 (0)))), opAt P 3 6 11, (some (pth 41)), (some ((pth 37), true))⟩,
⟨(.pick (.tmp (pth 37)) (.tmp (pth 41)) (.val (.bool false))), opAt P 3 6 12, (some (pth 42)), none⟩,
⟨(.mv (.tmp (pth 42))), opAt P 3 6 13, (some (pth 43)), none⟩,
⟨(.mv (.tmp (pth 5))), opAt P 3 6 14, (some (pth 44)), (some ((pth 43), true))⟩,
⟨(.ld 28 (.tmp (pth 3))), opAt P 3 6 15, (some (pth 45)), (some ((pth 43), true))⟩,
⟨(.call 8 [(.tmp (pth 44)), (.tmp (pth 45))]), opAt P 3 6 16, (some (pth 46)), (some ((pth 43), true))⟩,
⟨.slow, opAt P 3 6 17, (some (pth 47)), (some ((pth 43), true))⟩,
⟨(.bin .eql (.tmp (pth 47)) (.val (.int .i64 (0)))), opAt P 3 6 18, (some (pth 48)), (some ((pth 43), true))⟩,
⟨(.pick (.tmp (pth 43)) (.tmp (pth 48)) (.val (.bool false))), opAt P 3 6 19, (some (pth 49)), none⟩,
⟨(.mv (.tmp (pth 49))), opAt P 3 6 20, (some (pth 50)), none⟩,
⟨(.ld 25 (.tmp (pth 8))), opAt P 3 6 21, (some (pth 51)), (some ((pth 50), true))⟩,
⟨.slow, opAt P 3 6 22, (some (pth 52)), (some ((pth 50), true))⟩,
⟨(.bin .eql (.tmp (pth 51)) (.tmp (pth 52))), opAt P 3 6 23, (some (pth 53)), (some ((pth 50), true))⟩,
⟨(.pick (.tmp (pth 50)) (.tmp (pth 53)) (.val (.bool false))), opAt P 3 6 24, (some (pth 54)), none⟩,
⟨(.mv (.tmp (pth 54))), opAt P 3 6 25, (some (pth 55)), none⟩,
⟨(.mv (.tmp (pth 9))), opAt P 3 6 26, (some (pth 56)), (some ((pth 55), true))⟩,
⟨(.un .not (.tmp (pth 56))), opAt P 3 6 27, (some (pth 57)), (some ((pth 55), true))⟩,
⟨(.pick (.tmp (pth 55)) (.tmp (pth 57)) (.val (.bool false))), opAt P 3 6 28, (some (pth 58)), none⟩,
⟨(.mv (.tmp (pth 58))), opAt P 3 6 29, (some (pth 59)), none⟩,
⟨(.mv (.tmp (pth 5))), opAt P 3 6 30, (some (pth 60)), (some ((pth 59), true))⟩,
⟨(.call 9 [(.tmp (pth 60))]), opAt P 3 6 31, (some (pth 61)), (some ((pth 59), true))⟩,
⟨.slow, opAt P 3 6 32, (some (pth 62)), (some ((pth 59), true))⟩,
⟨(.bin .eql (.tmp (pth 62)) (.val (.int .i64 (0)))), opAt P 3 6 33, (some (pth 63)), (some ((pth 59), true))⟩,
⟨(.pick (.tmp (pth 59)) (.tmp (pth 63)) (.val (.bool false))), opAt P 3 6 34, (some (pth 64)), none⟩,
⟨(.mv (.tmp (pth 64))), opAt P 3 6 35, (some (pth 65)), none⟩,
⟨(.call 10 []), opAt P 3 6 36, (some (pth 66)), (some ((pth 65), true))⟩,
⟨(.pick (.tmp (pth 65)) (.tmp (pth 66)) (.val (.bool false))), opAt P 3 6 37, (some (pth 67)), none⟩,
⟨(.mv (.tmp (pth 67))), opAt P 3 6 38, (some (pth 4)), none⟩])
.ret)))))), [.tmp (pth 4)]⟩
theorem cf3_ok : cFn Tryd.prog 3 = some (cf3 Tryd.prog) := by kernel_rfl
def cf4 (P : Program) : FF := ⟨51, (.seq (.seqr [⟨(.mv (.val (.bool false))), opAt P 4 0 0, (some (pth 2)), none⟩])
(.seq (.seq (.seqr [⟨(.mv (.tmp (pth 0))), opAt P 4 1 0, (some (pth 4)), none⟩,
⟨.slow, opAt P 4 1 1, (some (pth 5)), none⟩,
⟨(.bin .gtr (.tmp (pth 5)) (.val (.int .i64 (150)))), opAt P 4 1 2, (some (pth 6)), none⟩])
(.cond (.tmp (pth 6)) (.seq (.seqr [⟨(.mv (.val (.bool true))), opAt P 4 2 0, (some (pth 2)), none⟩])
.ret)
.skip))
(.seq (.seq (.seqr [⟨(.mv (.val (.int .i64 (0)))), opAt P 4 3 0, (some (pth 3)), none⟩])
(.block 0 (.loop (.seq (.seq (.seqr [⟨(.mv (.tmp (pth 3))), opAt P 4 4 0, (some (pth 7)), none⟩,
⟨(.mv (.tmp (pth 0))), opAt P 4 4 1, (some (pth 8)), none⟩,
⟨.slow, opAt P 4 4 2, (some (pth 9)), none⟩,
⟨(.bin .lss (.tmp (pth 7)) (.tmp (pth 9))), opAt P 4 4 3, (some (pth 10)), none⟩])
(.cond (.tmp (pth 10)) .skip
(.exit 0)))
(.seq (.block 1 (.seq (.seqr [⟨(.mv (.tmp (pth 0))), opAt P 4 5 0, (some (pth 13)), none⟩,
⟨(.mv (.tmp (pth 3))), opAt P 4 5 1, (some (pth 14)), none⟩,
⟨(.ia (.tmp (pth 13)) (.tmp (pth 14)) 12), opAt P 4 5 2, (some (pth 15)), none⟩,
⟨(.fa (.tmp (pth 15)) 3), opAt P 4 5 3, (some (pth 16)), none⟩,
⟨(.fa (.tmp (pth 16)) 0), opAt P 4 5 4, (some (pth 17)), none⟩,
⟨(.ld 9 (.tmp (pth 17))), opAt P 4 5 5, (some (pth 18)), none⟩,
⟨.slow, opAt P 4 5 6, (some (pth 19)), none⟩,
⟨(.bin .gtr (.tmp (pth 19)) (.val (.int .i64 (60)))), opAt P 4 5 7, (some (pth 20)), none⟩,
⟨(.mv (.tmp (pth 20))), opAt P 4 5 8, (some (pth 21)), none⟩,
⟨(.mv (.tmp (pth 0))), opAt P 4 5 9, (some (pth 22)), (some ((pth 21), false))⟩,
⟨(.mv (.tmp (pth 3))), opAt P 4 5 10, (some (pth 23)), (some ((pth 21), false))⟩,
⟨(.ia (.tmp (pth 22)) (.tmp (pth 23)) 12), opAt P 4 5 11, (some (pth 24)), (some ((pth 21), false))⟩,
⟨(.fa (.tmp (pth 24)) 3), opAt P 4 5 12, (some (pth 25)), (some ((pth 21), false))⟩,
⟨(.fa (.tmp (pth 25)) 1), opAt P 4 5 13, (some (pth 26)), (some ((pth 21), false))⟩,
⟨(.ld 9 (.tmp (pth 26))), opAt P 4 5 14, (some (pth 27)), (some ((pth 21), false))⟩,
⟨.slow, opAt P 4 5 15, (some (pth 28)), (some ((pth 21), false))⟩,
⟨(.bin .gtr (.tmp (pth 28)) (.val (.int .i64 (60)))), opAt P 4 5 16, (some (pth 29)), (some ((pth 21), false))⟩,
⟨(.pick (.tmp (pth 21)) (.val (.bool true)) (.tmp (pth 29))), opAt P 4 5 17, (some (pth 30)), none⟩,
⟨(.mv (.tmp (pth 30))), opAt P 4 5 18, (some (pth 31)), none⟩,
⟨(.mv (.tmp (pth 0))), opAt P 4 5 19, (some (pth 32)), (some ((pth 31), false))⟩,
⟨(.mv (.tmp (pth 3))), opAt P 4 5 20, (some (pth 33)), (some ((pth 31), false))⟩,
⟨(.ia (.tmp (pth 32)) (.tmp (pth 33)) 12), opAt P 4 5 21, (some (pth 34)), (some ((pth 31), false))⟩,
⟨(.fa (.tmp (pth 34)) 5), opAt P 4 5 22, (some (pth 35)), (some ((pth 31), false))⟩,
⟨(.fa (.tmp (pth 35)) 0), opAt P 4 5 23, (some (pth 36)), (some ((pth 31), false))⟩,
⟨(.ld 9 (.tmp (pth 36))), opAt P 4 5 24, (some (pth 37)), (some ((pth 31), false))⟩,
⟨.slow, opAt P 4 5 25, (some (pth 38)), (some ((pth 31), false))⟩,
⟨(.bin .gtr (.tmp (pth 38)) (.val (.int .i64 (60)))), opAt P 4 5 26, (some (pth 39)), (some ((pth 31), false))⟩,
⟨(.pick (.tmp (pth 31)) (.val (.bool true)) (.tmp (pth 39))), opAt P 4 5 27, (some (pth 40)), none⟩,
⟨(.mv (.tmp (pth 40))), opAt P 4 5 28, (some (pth 41)), none⟩,
⟨(.mv (.tmp (pth 0))), opAt P 4 5 29, (some (pth 42)), (some ((pth 41), false))⟩,
⟨(.mv (.tmp (pth 3))), opAt P 4 5 30, (some (pth 43)), (some ((pth 41), false))⟩,
⟨(.ia (.tmp (pth 42)) (.tmp (pth 43)) 12), opAt P 4 5 31, (some (pth 44)), (some ((pth 41), false))⟩,
⟨(.fa (.tmp (pth 44)) 5), opAt P 4 5 32, (some (pth 45)), (some ((pth 41), false))⟩,
⟨(.fa (.tmp (pth 45)) 1), opAt P 4 5 33, (some (pth 46)), (some ((pth 41), false))⟩,
⟨(.ld 9 (.tmp (pth 46))), opAt P 4 5 34, (some (pth 47)), (some ((pth 41), false))⟩,
⟨.slow, opAt P 4 5 35, (some (pth 48)), (some ((pth 41), false))⟩,
⟨(.bin .gtr (.tmp (pth 48)) (.val (.int .i64 (60)))), opAt P 4 5 36, (some (pth 49)), (some ((pth 41), false))⟩,
⟨(.pick (.tmp (pth 41)) (.val (.bool true)) (.tmp (pth 49))), opAt P 4 5 37, (some (pth 50)), none⟩])
(.cond (.tmp (pth 50)) (.seq (.seqr [⟨(.mv (.val (.bool true))), opAt P 4 6 0, (some (pth 2)), none⟩])
.ret)
.skip)))
(.seqr [⟨(.mv (.tmp (pth 3))), opAt P 4 7 0, (some (pth 11)), none⟩,
⟨(.bin .add (.tmp (pth 11)) (.val (.int .i64 (1)))), opAt P 4 7 1, (some (pth 12)), none⟩,
⟨(.mv (.tmp (pth 12))), opAt P 4 7 2, (some (pth 3)), none⟩]))))))
(.seq (.seqr [⟨(.mv (.val (.bool false))), opAt P 4 8 0, (some (pth 2)), none⟩])
.ret)))), [.tmp (pth 2)]⟩
theorem cf4_ok : cFn Tryd.prog 4 = some (cf4 Tryd.prog) := by kernel_rfl
def cf5 (P : Program) : FF := ⟨59, (.seq (.seqr [⟨.slow, opAt P 5 0 0, (some (pth 3)), none⟩,
⟨.slow, opAt P 5 0 1, (some (pth 4)), none⟩,
⟨(.mv (.val (.int .i64 (0)))), opAt P 5 0 2, (some (pth 5)), none⟩])
(.seq (.seq (.seqr [⟨(.mv (.tmp (pth 0))), opAt P 5 1 0, (some (pth 6)), none⟩,
⟨(.bin .eql (.tmp (pth 6)) (.val (.pointer none))), opAt P 5 1 1, (some (pth 7)), none⟩])
(.cond (.tmp (pth 7)) (.seq (.seqr [⟨.slow, opAt P 5 2 0, (some (pth 8)), none⟩,
⟨(.st 25 (.tmp (pth 4)) (.tmp (pth 8))), opAt P 5 2 1, none, none⟩,
⟨(.mv (.val (.int .i64 (1)))), opAt P 5 2 2, (some (pth 5)), none⟩])
.ret)
.skip))
(.seq (.seq (.seqr [⟨(.mv (.tmp (pth 0))), opAt P 5 3 0, (some (pth 9)), none⟩,
⟨(.nc (.tmp (pth 9))), opAt P 5 3 1, (some (pth 10)), none⟩,
⟨(.fa (.tmp (pth 10)) 15), opAt P 5 3 2, (some (pth 11)), none⟩,
⟨(.ld 4 (.tmp (pth 11))), opAt P 5 3 3, (some (pth 12)), none⟩])
(.cond (.tmp (pth 12)) (.seq (.seqr [⟨.slow, opAt P 5 4 0, (some (pth 13)), none⟩,
⟨(.st 25 (.tmp (pth 4)) (.tmp (pth 13))), opAt P 5 4 1, none, none⟩,
⟨(.mv (.val (.int .i64 (12)))), opAt P 5 4 2, (some (pth 5)), none⟩])
.ret)
.skip))
(.seq (.reg [⟨(.mv (.tmp (pth 0))), opAt P 5 5 0, (some (pth 14)), none⟩,
⟨(.nc (.tmp (pth 14))), opAt P 5 5 1, (some (pth 15)), none⟩,
⟨(.fa (.tmp (pth 15)) 0), opAt P 5 5 2, (some (pth 16)), none⟩,
⟨(.ld 3 (.tmp (pth 16))), opAt P 5 5 3, (some (pth 17)), none⟩,
⟨(.bin .sub (.tmp (pth 17)) (.val (.int .i64 (32)))), opAt P 5 5 4, (some (pth 18)), none⟩,
⟨(.bin .add (.tmp (pth 18)) (.val (.int .i64 (1)))), opAt P 5 5 5, (some (pth 19)), none⟩,
⟨(.mv (.tmp (pth 0))), opAt P 5 5 6, (some (pth 20)), none⟩,
⟨(.nc (.tmp (pth 20))), opAt P 5 5 7, (some (pth 21)), none⟩,
⟨(.fa (.tmp (pth 21)) 2), opAt P 5 5 8, (some (pth 22)), none⟩,
⟨(.ld 3 (.tmp (pth 22))), opAt P 5 5 9, (some (pth 23)), none⟩,
⟨(.bin .add (.tmp (pth 23)) (.val (.int .i64 (1)))), opAt P 5 5 10, (some (pth 24)), none⟩,
⟨(.fa (.tmp (pth 3)) 1), opAt P 5 5 11, (some (pth 25)), none⟩,
⟨(.st 3 (.tmp (pth 25)) (.tmp (pth 19))), opAt P 5 5 12, none, none⟩,
⟨(.fa (.tmp (pth 3)) 2), opAt P 5 5 13, (some (pth 26)), none⟩,
⟨(.st 3 (.tmp (pth 26)) (.tmp (pth 24))), opAt P 5 5 14, none, none⟩] [(3, 9), (4, 9), (5, 9), (3, 10), (4, 10), (5, 10), (9, 12), (10, 12)])
(.seq (.seq (.seqr [⟨(.fa (.tmp (pth 3)) 0), opAt P 5 6 0, (some (pth 27)), none⟩,
⟨(.ld 3 (.tmp (pth 27))), opAt P 5 6 1, (some (pth 28)), none⟩,
⟨(.bin .lss (.tmp (pth 28)) (.val (.int .i64 (1)))), opAt P 5 6 2, (some (pth 29)), none⟩,
⟨(.mv (.tmp (pth 29))), opAt P 5 6 3, (some (pth 30)), none⟩,
⟨(.fa (.tmp (pth 3)) 0), opAt P 5 6 4, (some (pth 31)), (some ((pth 30), false))⟩,
⟨(.ld 3 (.tmp (pth 31))), opAt P 5 6 5, (some (pth 32)), (some ((pth 30), false))⟩,
⟨(.bin .gtr (.tmp (pth 32)) (.val (.int .i64 (5)))), opAt P 5 6 6, (some (pth 33)), (some ((pth 30), false))⟩,
⟨(.pick (.tmp (pth 30)) (.val (.bool true)) (.tmp (pth 33))), opAt P 5 6 7, (some (pth 34)), none⟩,
⟨(.mv (.tmp (pth 34))), opAt P 5 6 8, (some (pth 35)), none⟩,
⟨(.ld 25 (.tmp (pth 3))), opAt P 5 6 9, (some (pth 36)), (some ((pth 35), false))⟩,
⟨(.call 11 [(.tmp (pth 36))]), opAt P 5 6 10, (some (pth 37)), (some ((pth 35), false))⟩,
⟨(.un .not (.tmp (pth 37))), opAt P 5 6 11, (some (pth 38)), (some ((pth 35), false))⟩,
⟨(.pick (.tmp (pth 35)) (.val (.bool true)) (.tmp (pth 38))), opAt P 5 6 12, (some (pth 39)), none⟩])
(.cond (.tmp (pth 39)) (.seq (.seqr [⟨.slow, opAt P 5 7 0, (some (pth 40)), none⟩,
⟨(.st 25 (.tmp (pth 4)) (.tmp (pth 40))), opAt P 5 7 1, none, none⟩,
⟨(.mv (.val (.int .i64 (1)))), opAt P 5 7 2, (some (pth 5)), none⟩])
.ret)
.skip))
(.seq (.seqr [⟨(.mv (.tmp (pth 0))), opAt P 5 8 0, (some (pth 41)), none⟩,
⟨(.mv (.tmp (pth 0))), opAt P 5 8 1, (some (pth 42)), none⟩,
⟨(.mv (.tmp (pth 0))), opAt P 5 8 2, (some (pth 43)), none⟩,
⟨(.ld 25 (.tmp (pth 3))), opAt P 5 8 3, (some (pth 44)), none⟩,
⟨(.nc (.tmp (pth 41))), opAt P 5 8 4, (some (pth 45)), none⟩,
⟨(.fa (.tmp (pth 45)) 3), opAt P 5 8 5, (some (pth 46)), none⟩,
⟨(.st 25 (.tmp (pth 46)) (.tmp (pth 44))), opAt P 5 8 6, none, none⟩,
⟨(.nc (.tmp (pth 42))), opAt P 5 8 7, (some (pth 47)), none⟩,
⟨(.fa (.tmp (pth 47)) 15), opAt P 5 8 8, (some (pth 48)), none⟩,
⟨(.st 4 (.tmp (pth 48)) (.val (.bool true))), opAt P 5 8 9, none, none⟩,
⟨(.nc (.tmp (pth 43))), opAt P 5 8 10, (some (pth 49)), none⟩,
⟨(.fa (.tmp (pth 49)) 17), opAt P 5 8 11, (some (pth 50)), none⟩,
⟨(.st 3 (.tmp (pth 50)) (.val (.int .i64 (0)))), opAt P 5 8 12, none, none⟩])
(.seq (.seqr [⟨(.mv (.tmp (pth 0))), opAt P 5 9 0, (some (pth 51)), none⟩,
⟨(.nc (.tmp (pth 51))), opAt P 5 9 1, (some (pth 52)), none⟩,
⟨(.fa (.tmp (pth 52)) 2), opAt P 5 9 2, (some (pth 53)), none⟩,
⟨(.ld 3 (.tmp (pth 53))), opAt P 5 9 3, (some (pth 54)), none⟩,
⟨(.bin .add (.tmp (pth 54)) (.val (.int .i64 (1)))), opAt P 5 9 4, (some (pth 55)), none⟩,
⟨(.nc (.tmp (pth 51))), opAt P 5 9 5, (some (pth 56)), none⟩,
⟨(.fa (.tmp (pth 56)) 2), opAt P 5 9 6, (some (pth 57)), none⟩,
⟨(.st 3 (.tmp (pth 57)) (.tmp (pth 55))), opAt P 5 9 7, none, none⟩])
(.seq (.seqr [⟨(.ld 25 (.tmp (pth 3))), opAt P 5 10 0, (some (pth 58)), none⟩,
⟨(.st 25 (.tmp (pth 4)) (.tmp (pth 58))), opAt P 5 10 1, none, none⟩,
⟨(.mv (.val (.int .i64 (0)))), opAt P 5 10 2, (some (pth 5)), none⟩])
.ret)))))))), [.cell (pth 4) 25, .tmp (pth 5)]⟩
theorem cf5_ok : cFn Tryd.prog 5 = some (cf5 Tryd.prog) := by kernel_rfl
def cf6 (P : Program) : FF := ⟨18, (.seq (.seqr [⟨.slow, opAt P 6 0 0, (some (pth 2)), none⟩,
⟨(.mv (.val (.bool false))), opAt P 6 0 1, (some (pth 3)), none⟩])
(.seq (.seq (.seqr [⟨(.mv (.tmp (pth 0))), opAt P 6 1 0, (some (pth 4)), none⟩,
⟨(.bin .eql (.tmp (pth 4)) (.val (.pointer none))), opAt P 6 1 1, (some (pth 5)), none⟩,
⟨(.mv (.tmp (pth 5))), opAt P 6 1 2, (some (pth 6)), none⟩,
⟨(.mv (.tmp (pth 0))), opAt P 6 1 3, (some (pth 7)), (some ((pth 6), false))⟩,
⟨(.nc (.tmp (pth 7))), opAt P 6 1 4, (some (pth 8)), (some ((pth 6), false))⟩,
⟨(.fa (.tmp (pth 8)) 15), opAt P 6 1 5, (some (pth 9)), (some ((pth 6), false))⟩,
⟨(.ld 4 (.tmp (pth 9))), opAt P 6 1 6, (some (pth 10)), (some ((pth 6), false))⟩,
⟨(.un .not (.tmp (pth 10))), opAt P 6 1 7, (some (pth 11)), (some ((pth 6), false))⟩,
⟨(.pick (.tmp (pth 6)) (.val (.bool true)) (.tmp (pth 11))), opAt P 6 1 8, (some (pth 12)), none⟩])
(.cond (.tmp (pth 12)) (.seq (.seqr [⟨.slow, opAt P 6 2 0, (some (pth 13)), none⟩,
⟨(.st 25 (.tmp (pth 2)) (.tmp (pth 13))), opAt P 6 2 1, none, none⟩,
⟨(.mv (.val (.bool false))), opAt P 6 2 2, (some (pth 3)), none⟩])
.ret)
.skip))
(.seq (.seqr [⟨(.mv (.tmp (pth 0))), opAt P 6 3 0, (some (pth 14)), none⟩,
⟨(.nc (.tmp (pth 14))), opAt P 6 3 1, (some (pth 15)), none⟩,
⟨(.fa (.tmp (pth 15)) 3), opAt P 6 3 2, (some (pth 16)), none⟩,
⟨(.ld 25 (.tmp (pth 16))), opAt P 6 3 3, (some (pth 17)), none⟩,
⟨(.st 25 (.tmp (pth 2)) (.tmp (pth 17))), opAt P 6 3 4, none, none⟩,
⟨(.mv (.val (.bool true))), opAt P 6 3 5, (some (pth 3)), none⟩])
.ret))), [.cell (pth 2) 25, .tmp (pth 3)]⟩
theorem cf6_ok : cFn Tryd.prog 6 = some (cf6 Tryd.prog) := by kernel_rfl
def cf7 (P : Program) : FF := ⟨49, (.seq (.seqr [⟨(.mv (.val (.slice none 0 0))), opAt P 7 0 0, (some (pth 2)), none⟩])
(.seq (.seq (.seqr [⟨(.mv (.tmp (pth 0))), opAt P 7 1 0, (some (pth 4)), none⟩,
⟨(.bin .eql (.tmp (pth 4)) (.val (.pointer none))), opAt P 7 1 1, (some (pth 5)), none⟩,
⟨(.mv (.tmp (pth 5))), opAt P 7 1 2, (some (pth 6)), none⟩,
⟨(.mv (.tmp (pth 0))), opAt P 7 1 3, (some (pth 7)), (some ((pth 6), false))⟩,
⟨(.nc (.tmp (pth 7))), opAt P 7 1 4, (some (pth 8)), (some ((pth 6), false))⟩,
⟨(.fa (.tmp (pth 8)) 15), opAt P 7 1 5, (some (pth 9)), (some ((pth 6), false))⟩,
⟨(.ld 4 (.tmp (pth 9))), opAt P 7 1 6, (some (pth 10)), (some ((pth 6), false))⟩,
⟨(.un .not (.tmp (pth 10))), opAt P 7 1 7, (some (pth 11)), (some ((pth 6), false))⟩,
⟨(.pick (.tmp (pth 6)) (.val (.bool true)) (.tmp (pth 11))), opAt P 7 1 8, (some (pth 12)), none⟩])
(.cond (.tmp (pth 12)) (.seq (.seqr [⟨(.mv (.val (.slice none 0 0))), opAt P 7 2 0, (some (pth 2)), none⟩])
.ret)
.skip))
(.seq (.seq (.seqr [⟨(.mv (.tmp (pth 0))), opAt P 7 3 0, (some (pth 13)), none⟩,
⟨(.nc (.tmp (pth 13))), opAt P 7 3 1, (some (pth 14)), none⟩,
⟨(.fa (.tmp (pth 14)) 17), opAt P 7 3 2, (some (pth 15)), none⟩,
⟨(.ld 3 (.tmp (pth 15))), opAt P 7 3 3, (some (pth 16)), none⟩,
⟨(.bin .gtr (.tmp (pth 16)) (.val (.int .i64 (0)))), opAt P 7 3 4, (some (pth 17)), none⟩])
(.cond (.tmp (pth 17)) (.seq (.seqr [⟨(.mv (.tmp (pth 0))), opAt P 7 4 0, (some (pth 18)), none⟩,
⟨(.nc (.tmp (pth 18))), opAt P 7 4 1, (some (pth 19)), none⟩,
⟨(.fa (.tmp (pth 19)) 17), opAt P 7 4 2, (some (pth 20)), none⟩,
⟨(.ld 3 (.tmp (pth 20))), opAt P 7 4 3, (some (pth 21)), none⟩,
⟨(.bin .sub (.tmp (pth 21)) (.val (.int .i64 (1)))), opAt P 7 4 4, (some (pth 22)), none⟩,
⟨(.nc (.tmp (pth 18))), opAt P 7 4 5, (some (pth 23)), none⟩,
⟨(.fa (.tmp (pth 23)) 17), opAt P 7 4 6, (some (pth 24)), none⟩,
⟨(.st 3 (.tmp (pth 24)) (.tmp (pth 22))), opAt P 7 4 7, none, none⟩])
(.seq (.seqr [⟨(.mv (.val (.slice none 0 0))), opAt P 7 5 0, (some (pth 2)), none⟩])
.ret))
.skip))
(.seq (.seqr [⟨(.mv (.tmp (pth 0))), opAt P 7 6 0, (some (pth 25)), none⟩,
⟨(.nc (.tmp (pth 25))), opAt P 7 6 1, (some (pth 26)), none⟩,
⟨(.fa (.tmp (pth 26)) 16), opAt P 7 6 2, (some (pth 27)), none⟩,
⟨(.ld 3 (.tmp (pth 27))), opAt P 7 6 3, (some (pth 28)), none⟩,
⟨(.bin .add (.val (.int .i64 (8))) (.tmp (pth 28))), opAt P 7 6 4, (some (pth 29)), none⟩,
⟨(.mv (.tmp (pth 29))), opAt P 7 6 5, (some (pth 3)), none⟩])
(.seq (.reg [⟨(.mv (.tmp (pth 0))), opAt P 7 7 0, (some (pth 30)), none⟩,
⟨(.mv (.tmp (pth 0))), opAt P 7 7 1, (some (pth 31)), none⟩,
⟨(.nc (.tmp (pth 31))), opAt P 7 7 2, (some (pth 32)), none⟩,
⟨(.fa (.tmp (pth 32)) 16), opAt P 7 7 3, (some (pth 33)), none⟩,
⟨(.ld 3 (.tmp (pth 33))), opAt P 7 7 4, (some (pth 34)), none⟩,
⟨(.bin .add (.tmp (pth 34)) (.val (.int .i64 (1)))), opAt P 7 7 5, (some (pth 35)), none⟩,
⟨(.mv (.tmp (pth 0))), opAt P 7 7 6, (some (pth 36)), none⟩,
⟨(.nc (.tmp (pth 36))), opAt P 7 7 7, (some (pth 37)), none⟩,
⟨(.fa (.tmp (pth 37)) 1), opAt P 7 7 8, (some (pth 38)), none⟩,
⟨(.ld 3 (.tmp (pth 38))), opAt P 7 7 9, (some (pth 39)), none⟩,
⟨.slow, opAt P 7 7 10, (some (pth 40)), none⟩,
⟨(.bin .rem (.tmp (pth 35)) (.tmp (pth 40))), opAt P 7 7 11, (some (pth 41)), none⟩,
⟨(.nc (.tmp (pth 30))), opAt P 7 7 12, (some (pth 42)), none⟩,
⟨(.fa (.tmp (pth 42)) 16), opAt P 7 7 13, (some (pth 43)), none⟩,
⟨(.st 3 (.tmp (pth 43)) (.tmp (pth 41))), opAt P 7 7 14, none, none⟩] [(4, 9), (5, 9), (4, 10), (5, 10)])
(.seq (.seqr [⟨(.mv (.tmp (pth 0))), opAt P 7 8 0, (some (pth 44)), none⟩,
⟨(.mv (.tmp (pth 3))), opAt P 7 8 1, (some (pth 45)), none⟩,
⟨(.mv (.tmp (pth 0))), opAt P 7 8 2, (some (pth 46)), none⟩,
⟨.slow, opAt P 7 8 3, (some (pth 47)), none⟩,
⟨(.call 12 [(.tmp (pth 44)), (.tmp (pth 45)), (.tmp (pth 47))]), opAt P 7 8 4, (some (pth 48)), none⟩,
⟨(.mv (.tmp (pth 48))), opAt P 7 8 5, (some (pth 2)), none⟩])
.ret)))))), [.tmp (pth 2)]⟩
theorem cf7_ok : cFn Tryd.prog 7 = some (cf7 Tryd.prog) := by kernel_rfl
def cf8 (P : Program) : FF := ⟨104, (.seq (.seqr [⟨.slow, opAt P 8 0 0, (some (pth 3)), none⟩,
⟨(.mv (.val (.slice none 0 0))), opAt P 8 0 1, (some (pth 4)), none⟩])
(.seq (.seq (.reg [⟨(.mv (.tmp (pth 0))), opAt P 8 1 0, (some (pth 7)), none⟩,
⟨(.bin .eql (.tmp (pth 7)) (.val (.pointer none))), opAt P 8 1 1, (some (pth 8)), none⟩,
⟨(.mv (.tmp (pth 8))), opAt P 8 1 2, (some (pth 9)), none⟩,
⟨(.mv (.tmp (pth 0))), opAt P 8 1 3, (some (pth 10)), (some ((pth 9), false))⟩,
⟨(.nc (.tmp (pth 10))), opAt P 8 1 4, (some (pth 11)), (some ((pth 9), false))⟩,
⟨(.fa (.tmp (pth 11)) 15), opAt P 8 1 5, (some (pth 12)), (some ((pth 9), false))⟩,
⟨(.ld 4 (.tmp (pth 12))), opAt P 8 1 6, (some (pth 13)), (some ((pth 9), false))⟩,
⟨(.un .not (.tmp (pth 13))), opAt P 8 1 7, (some (pth 14)), (some ((pth 9), false))⟩,
⟨(.pick (.tmp (pth 9)) (.val (.bool true)) (.tmp (pth 14))), opAt P 8 1 8, (some (pth 15)), none⟩,
⟨(.mv (.tmp (pth 15))), opAt P 8 1 9, (some (pth 16)), none⟩,
⟨(.fa (.tmp (pth 3)) 1), opAt P 8 1 10, (some (pth 17)), (some ((pth 16), false))⟩,
⟨(.ld 3 (.tmp (pth 17))), opAt P 8 1 11, (some (pth 18)), (some ((pth 16), false))⟩,
⟨(.mv (.tmp (pth 0))), opAt P 8 1 12, (some (pth 19)), (some ((pth 16), false))⟩,
⟨(.nc (.tmp (pth 19))), opAt P 8 1 13, (some (pth 20)), (some ((pth 16), false))⟩,
⟨(.fa (.tmp (pth 20)) 0), opAt P 8 1 14, (some (pth 21)), (some ((pth 16), false))⟩,
⟨(.ld 3 (.tmp (pth 21))), opAt P 8 1 15, (some (pth 22)), (some ((pth 16), false))⟩,
⟨(.bin .neq (.tmp (pth 18)) (.tmp (pth 22))), opAt P 8 1 16, (some (pth 23)), (some ((pth 16), false))⟩,
⟨(.pick (.tmp (pth 16)) (.val (.bool true)) (.tmp (pth 23))), opAt P 8 1 17, (some (pth 24)), none⟩,
⟨(.mv (.tmp (pth 24))), opAt P 8 1 18, (some (pth 25)), none⟩,
⟨(.mv (.tmp (pth 0))), opAt P 8 1 19, (some (pth 26)), (some ((pth 25), false))⟩,
⟨(.fa (.tmp (pth 3)) 0), opAt P 8 1 20, (some (pth 27)), (some ((pth 25), false))⟩,
⟨(.ld 3 (.tmp (pth 27))), opAt P 8 1 21, (some (pth 28)), (some ((pth 25), false))⟩,
⟨(.call 14 [(.tmp (pth 26)), (.tmp (pth 28))]), opAt P 8 1 22, (some (pth 29)), (some ((pth 25), false))⟩,
⟨(.un .not (.tmp (pth 29))), opAt P 8 1 23, (some (pth 30)), (some ((pth 25), false))⟩,
⟨(.pick (.tmp (pth 25)) (.val (.bool true)) (.tmp (pth 30))), opAt P 8 1 24, (some (pth 31)), none⟩] [(11, 15)])
(.cond (.tmp (pth 31)) (.seq (.seqr [⟨(.mv (.val (.slice none 0 0))), opAt P 8 2 0, (some (pth 4)), none⟩])
.ret)
.skip))
(.seq (.seqr [⟨(.fa (.tmp (pth 3)) 2), opAt P 8 3 0, (some (pth 33)), none⟩,
⟨(.ld 26 (.tmp (pth 33))), opAt P 8 3 1, (some (pth 34)), none⟩,
⟨(.call 15 [(.tmp (pth 34))]), opAt P 8 3 2, (some (pth 35)), none⟩,
⟨(.mv (.tmp (pth 35))), opAt P 8 3 3, (some (pth 32)), none⟩,
⟨(.ext (.tmp (pth 32)) 0), opAt P 8 3 4, (some (pth 36)), none⟩,
⟨(.ext (.tmp (pth 32)) 1), opAt P 8 3 5, (some (pth 37)), none⟩,
⟨.slow, opAt P 8 3 6, (some (pth 5)), none⟩,
⟨(.st 62 (.tmp (pth 5)) (.tmp (pth 36))), opAt P 8 3 7, none, none⟩,
⟨(.mv (.tmp (pth 37))), opAt P 8 3 8, (some (pth 6)), none⟩])
(.seq (.seq (.reg [⟨(.mv (.tmp (pth 6))), opAt P 8 4 0, (some (pth 38)), none⟩,
⟨(.bin .neq (.tmp (pth 38)) (.val (.int .i64 (0)))), opAt P 8 4 1, (some (pth 39)), none⟩,
⟨(.mv (.tmp (pth 39))), opAt P 8 4 2, (some (pth 40)), none⟩,
⟨(.fa (.tmp (pth 5)) 0), opAt P 8 4 3, (some (pth 41)), (some ((pth 40), false))⟩,
⟨(.ld 3 (.tmp (pth 41))), opAt P 8 4 4, (some (pth 42)), (some ((pth 40), false))⟩,
⟨(.bin .neq (.tmp (pth 42)) (.val (.int .i64 (6)))), opAt P 8 4 5, (some (pth 43)), (some ((pth 40), false))⟩,
⟨(.pick (.tmp (pth 40)) (.val (.bool true)) (.tmp (pth 43))), opAt P 8 4 6, (some (pth 44)), none⟩,
⟨(.mv (.tmp (pth 44))), opAt P 8 4 7, (some (pth 45)), none⟩,
⟨(.fa (.tmp (pth 5)) 10), opAt P 8 4 8, (some (pth 46)), (some ((pth 45), false))⟩,
⟨(.ld 25 (.tmp (pth 46))), opAt P 8 4 9, (some (pth 47)), (some ((pth 45), false))⟩,
⟨(.mv (.tmp (pth 0))), opAt P 8 4 10, (some (pth 48)), (some ((pth 45), false))⟩,
⟨(.nc (.tmp (pth 48))), opAt P 8 4 11, (some (pth 49)), (some ((pth 45), false))⟩,
⟨(.fa (.tmp (pth 49)) 3), opAt P 8 4 12, (some (pth 50)), (some ((pth 45), false))⟩,
⟨(.ld 25 (.tmp (pth 50))), opAt P 8 4 13, (some (pth 51)), (some ((pth 45), false))⟩,
⟨(.call 16 [(.tmp (pth 47)), (.tmp (pth 51))]), opAt P 8 4 14, (some (pth 52)), (some ((pth 45), false))⟩,
⟨(.un .not (.tmp (pth 52))), opAt P 8 4 15, (some (pth 53)), (some ((pth 45), false))⟩,
⟨(.pick (.tmp (pth 45)) (.val (.bool true)) (.tmp (pth 53))), opAt P 8 4 16, (some (pth 54)), none⟩] [(9, 13)])
(.cond (.tmp (pth 54)) (.seq (.seqr [⟨(.mv (.val (.slice none 0 0))), opAt P 8 5 0, (some (pth 4)), none⟩])
.ret)
.skip))
(.seq (.block 0 (.seq (.seqr [⟨(.fa (.tmp (pth 5)) 7), opAt P 8 6 0, (some (pth 56)), none⟩,
⟨(.ld 32 (.tmp (pth 56))), opAt P 8 6 1, (some (pth 57)), none⟩,
⟨(.bin .eql (.tmp (pth 57)) (.val (.int .i64 (0)))), opAt P 8 6 2, (some (pth 58)), none⟩,
⟨(.mv (.tmp (pth 58))), opAt P 8 6 3, (some (pth 55)), none⟩])
(.cond (.tmp (pth 55)) (.seq (.reg [⟨(.mv (.tmp (pth 0))), opAt P 8 7 0, (some (pth 59)), none⟩,
⟨(.mv (.tmp (pth 0))), opAt P 8 7 1, (some (pth 60)), none⟩,
⟨(.nc (.tmp (pth 60))), opAt P 8 7 2, (some (pth 61)), none⟩,
⟨(.fa (.tmp (pth 61)) 18), opAt P 8 7 3, (some (pth 62)), none⟩,
⟨(.ld 40 (.tmp (pth 62))), opAt P 8 7 4, (some (pth 63)), none⟩,
⟨(.mv (.tmp (pth 0))), opAt P 8 7 5, (some (pth 64)), none⟩,
⟨(.nc (.tmp (pth 64))), opAt P 8 7 6, (some (pth 65)), none⟩,
⟨(.fa (.tmp (pth 65)) 3), opAt P 8 7 7, (some (pth 66)), none⟩,
⟨(.ld 25 (.tmp (pth 66))), opAt P 8 7 8, (some (pth 67)), none⟩,
⟨(.fa (.tmp (pth 5)) 22), opAt P 8 7 9, (some (pth 68)), none⟩,
⟨(.ld 55 (.tmp (pth 68))), opAt P 8 7 10, (some (pth 69)), none⟩,
⟨.slow, opAt P 8 7 11, (some (pth 70)), none⟩,
⟨.slow, opAt P 8 7 12, (some (pth 71)), none⟩,
⟨.slow, opAt P 8 7 13, (some (pth 72)), none⟩,
⟨(.nc (.tmp (pth 59))), opAt P 8 7 14, (some (pth 73)), none⟩,
⟨(.fa (.tmp (pth 73)) 18), opAt P 8 7 15, (some (pth 74)), none⟩,
⟨(.st 40 (.tmp (pth 74)) (.tmp (pth 72))), opAt P 8 7 16, none, none⟩] [(4, 8), (4, 10), (8, 10), (4, 11), (4, 12)])
(.seqr [⟨(.mv (.tmp (pth 0))), opAt P 8 8 0, (some (pth 75)), none⟩,
⟨(.mv (.tmp (pth 0))), opAt P 8 8 1, (some (pth 76)), none⟩,
⟨.slow, opAt P 8 8 2, (some (pth 77)), none⟩,
⟨(.nc (.tmp (pth 75))), opAt P 8 8 3, (some (pth 78)), none⟩,
⟨(.fa (.tmp (pth 78)) 3), opAt P 8 8 4, (some (pth 79)), none⟩,
⟨(.st 25 (.tmp (pth 79)) (.tmp (pth 77))), opAt P 8 8 5, none, none⟩,
⟨(.nc (.tmp (pth 76))), opAt P 8 8 6, (some (pth 80)), none⟩,
⟨(.fa (.tmp (pth 80)) 15), opAt P 8 8 7, (some (pth 81)), none⟩,
⟨(.st 4 (.tmp (pth 81)) (.val (.bool false))), opAt P 8 8 8, none, none⟩]))
(.seq (.seqr [⟨(.fa (.tmp (pth 5)) 7), opAt P 8 9 0, (some (pth 83)), none⟩,
⟨(.ld 32 (.tmp (pth 83))), opAt P 8 9 1, (some (pth 84)), none⟩,
⟨(.bin .eql (.tmp (pth 84)) (.val (.int .i64 (15)))), opAt P 8 9 2, (some (pth 85)), none⟩,
⟨(.mv (.tmp (pth 85))), opAt P 8 9 3, (some (pth 86)), none⟩,
⟨(.mv (.tmp (pth 0))), opAt P 8 9 4, (some (pth 87)), (some ((pth 86), true))⟩,
⟨(.fa (.tmp (pth 5)) 6), opAt P 8 9 5, (some (pth 88)), (some ((pth 86), true))⟩,
⟨(.ld 3 (.tmp (pth 88))), opAt P 8 9 6, (some (pth 89)), (some ((pth 86), true))⟩,
⟨(.call 14 [(.tmp (pth 87)), (.tmp (pth 89))]), opAt P 8 9 7, (some (pth 90)), (some ((pth 86), true))⟩,
⟨(.pick (.tmp (pth 86)) (.tmp (pth 90)) (.val (.bool false))), opAt P 8 9 8, (some (pth 91)), none⟩,
⟨(.mv (.tmp (pth 91))), opAt P 8 9 9, (some (pth 82)), none⟩])
(.cond (.tmp (pth 82)) (.seq (.seqr [⟨(.mv (.tmp (pth 0))), opAt P 8 10 0, (some (pth 92)), none⟩,
⟨(.fa (.tmp (pth 5)) 6), opAt P 8 10 1, (some (pth 93)), none⟩,
⟨(.ld 3 (.tmp (pth 93))), opAt P 8 10 2, (some (pth 94)), none⟩,
⟨(.bin .sub (.tmp (pth 94)) (.val (.int .i64 (8)))), opAt P 8 10 3, (some (pth 95)), none⟩,
⟨(.nc (.tmp (pth 92))), opAt P 8 10 4, (some (pth 96)), none⟩,
⟨(.fa (.tmp (pth 96)) 16), opAt P 8 10 5, (some (pth 97)), none⟩,
⟨(.st 3 (.tmp (pth 97)) (.tmp (pth 95))), opAt P 8 10 6, none, none⟩])
(.seq (.seqr [⟨(.mv (.tmp (pth 0))), opAt P 8 11 0, (some (pth 98)), none⟩,
⟨(.fa (.tmp (pth 5)) 6), opAt P 8 11 1, (some (pth 99)), none⟩,
⟨(.ld 3 (.tmp (pth 99))), opAt P 8 11 2, (some (pth 100)), none⟩,
⟨(.mv (.tmp (pth 0))), opAt P 8 11 3, (some (pth 101)), none⟩,
⟨.slow, opAt P 8 11 4, (some (pth 102)), none⟩,
⟨(.call 12 [(.tmp (pth 98)), (.tmp (pth 100)), (.tmp (pth 102))]), opAt P 8 11 5, (some (pth 103)), none⟩,
⟨(.mv (.tmp (pth 103))), opAt P 8 11 6, (some (pth 4)), none⟩])
.ret))
.skip)))))
(.seq (.seqr [⟨(.mv (.val (.slice none 0 0))), opAt P 8 12 0, (some (pth 4)), none⟩])
.ret)))))), [.tmp (pth 4)]⟩
theorem cf8_ok : cFn Tryd.prog 8 = some (cf8 Tryd.prog) := by kernel_rfl
def cf9 (P : Program) : FF := ⟨10, (.seq (.seqr [⟨(.mv (.val (.slice none 0 0))), opAt P 9 0 0, (some (pth 2)), none⟩])
(.seq (.seq (.seqr [⟨(.mv (.tmp (pth 0))), opAt P 9 1 0, (some (pth 3)), none⟩,
⟨(.bin .eql (.tmp (pth 3)) (.val (.pointer none))), opAt P 9 1 1, (some (pth 4)), none⟩])
(.cond (.tmp (pth 4)) (.seq (.seqr [⟨(.mv (.val (.slice none 0 0))), opAt P 9 2 0, (some (pth 2)), none⟩])
.ret)
.skip))
(.seq (.seqr [⟨(.mv (.tmp (pth 0))), opAt P 9 3 0, (some (pth 5)), none⟩,
⟨(.nc (.tmp (pth 5))), opAt P 9 3 1, (some (pth 6)), none⟩,
⟨(.fa (.tmp (pth 6)) 18), opAt P 9 3 2, (some (pth 7)), none⟩,
⟨(.ld 40 (.tmp (pth 7))), opAt P 9 3 3, (some (pth 8)), none⟩,
⟨(.call 17 [(.tmp (pth 8))]), opAt P 9 3 4, (some (pth 9)), none⟩,
⟨(.mv (.tmp (pth 9))), opAt P 9 3 5, (some (pth 2)), none⟩])
.ret))), [.tmp (pth 2)]⟩
theorem cf9_ok : cFn Tryd.prog 9 = some (cf9 Tryd.prog) := by kernel_rfl
def cf10 (P : Program) : FF := ⟨48, (.seq (.seqr [⟨(.mv (.val (.bool false))), opAt P 10 0 0, (some (pth 0)), none⟩])
(.seq (.seqr [⟨(.call 18 [(.val (.int .i64 (32))), (.val (.int .i64 (1)))]), opAt P 10 1 0, (some (pth 7)), none⟩,
⟨(.mv (.tmp (pth 7))), opAt P 10 1 1, (some (pth 6)), none⟩,
⟨(.ext (.tmp (pth 6)) 0), opAt P 10 1 2, (some (pth 8)), none⟩,
⟨(.ext (.tmp (pth 6)) 1), opAt P 10 1 3, (some (pth 9)), none⟩,
⟨(.mv (.tmp (pth 8))), opAt P 10 1 4, (some (pth 1)), none⟩,
⟨(.mv (.tmp (pth 9))), opAt P 10 1 5, (some (pth 2)), none⟩])
(.seq (.seq (.seqr [⟨(.mv (.tmp (pth 2))), opAt P 10 2 0, (some (pth 10)), none⟩,
⟨(.bin .neq (.tmp (pth 10)) (.val (.int .i64 (0)))), opAt P 10 2 1, (some (pth 11)), none⟩,
⟨(.mv (.tmp (pth 11))), opAt P 10 2 2, (some (pth 12)), none⟩,
⟨(.mv (.tmp (pth 1))), opAt P 10 2 3, (some (pth 13)), (some ((pth 12), false))⟩,
⟨(.bin .eql (.tmp (pth 13)) (.val (.pointer none))), opAt P 10 2 4, (some (pth 14)), (some ((pth 12), false))⟩,
⟨(.pick (.tmp (pth 12)) (.val (.bool true)) (.tmp (pth 14))), opAt P 10 2 5, (some (pth 15)), none⟩])
(.cond (.tmp (pth 15)) (.seq (.seqr [⟨(.mv (.val (.bool false))), opAt P 10 3 0, (some (pth 0)), none⟩])
.ret)
.skip))
(.seq (.seqr [⟨(.mv (.tmp (pth 1))), opAt P 10 4 0, (some (pth 17)), none⟩,
⟨(.call 19 []), opAt P 10 4 1, (some (pth 18)), none⟩,
⟨(.call 5 [(.tmp (pth 17)), (.tmp (pth 18))]), opAt P 10 4 2, (some (pth 19)), none⟩,
⟨(.mv (.tmp (pth 19))), opAt P 10 4 3, (some (pth 16)), none⟩,
⟨(.ext (.tmp (pth 16)) 0), opAt P 10 4 4, (some (pth 20)), none⟩,
⟨(.ext (.tmp (pth 16)) 1), opAt P 10 4 5, (some (pth 21)), none⟩,
⟨.slow, opAt P 10 4 6, (some (pth 3)), none⟩,
⟨(.st 25 (.tmp (pth 3)) (.tmp (pth 20))), opAt P 10 4 7, none, none⟩,
⟨(.mv (.tmp (pth 21))), opAt P 10 4 8, (some (pth 4)), none⟩])
(.seq (.seqr [⟨(.mv (.tmp (pth 1))), opAt P 10 5 0, (some (pth 22)), none⟩,
⟨(.call 7 [(.tmp (pth 22))]), opAt P 10 5 1, (some (pth 23)), none⟩,
⟨(.mv (.tmp (pth 23))), opAt P 10 5 2, (some (pth 5)), none⟩])
(.seq (.seqr [⟨(.mv (.tmp (pth 4))), opAt P 10 6 0, (some (pth 24)), none⟩,
⟨(.bin .eql (.tmp (pth 24)) (.val (.int .i64 (0)))), opAt P 10 6 1, (some (pth 25)), none⟩,
⟨(.mv (.tmp (pth 25))), opAt P 10 6 2, (some (pth 26)), none⟩,
⟨(.fa (.tmp (pth 3)) 1), opAt P 10 6 3, (some (pth 27)), (some ((pth 26), true))⟩,
⟨(.ld 3 (.tmp (pth 27))), opAt P 10 6 4, (some (pth 28)), (some ((pth 26), true))⟩,
⟨(.bin .eql (.tmp (pth 28)) (.val (.int .i64 (1)))), opAt P 10 6 5, (some (pth 29)), (some ((pth 26), true))⟩,
⟨(.pick (.tmp (pth 26)) (.tmp (pth 29)) (.val (.bool false))), opAt P 10 6 6, (some (pth 30)), none⟩,
⟨(.mv (.tmp (pth 30))), opAt P 10 6 7, (some (pth 31)), none⟩,
⟨(.fa (.tmp (pth 3)) 2), opAt P 10 6 8, (some (pth 32)), (some ((pth 31), true))⟩,
⟨(.ld 3 (.tmp (pth 32))), opAt P 10 6 9, (some (pth 33)), (some ((pth 31), true))⟩,
⟨(.bin .eql (.tmp (pth 33)) (.val (.int .i64 (1)))), opAt P 10 6 10, (some (pth 34)), (some ((pth 31), true))⟩,
⟨(.pick (.tmp (pth 31)) (.tmp (pth 34)) (.val (.bool false))), opAt P 10 6 11, (some (pth 35)), none⟩,
⟨(.mv (.tmp (pth 35))), opAt P 10 6 12, (some (pth 36)), none⟩,
⟨(.mv (.tmp (pth 5))), opAt P 10 6 13, (some (pth 37)), (some ((pth 36), true))⟩,
⟨.slow, opAt P 10 6 14, (some (pth 38)), (some ((pth 36), true))⟩,
⟨(.bin .eql (.tmp (pth 38)) (.val (.int .i64 (1)))), opAt P 10 6 15, (some (pth 39)), (some ((pth 36), true))⟩,
⟨(.pick (.tmp (pth 36)) (.tmp (pth 39)) (.val (.bool false))), opAt P 10 6 16, (some (pth 40)), none⟩,
⟨(.mv (.tmp (pth 40))), opAt P 10 6 17, (some (pth 41)), none⟩,
⟨(.mv (.tmp (pth 5))), opAt P 10 6 18, (some (pth 42)), (some ((pth 41), true))⟩,
⟨(.ia (.tmp (pth 42)) (.val (.int .i64 (0))) 3), opAt P 10 6 19, (some (pth 43)), (some ((pth 41), true))⟩,
⟨(.fa (.tmp (pth 43)) 1), opAt P 10 6 20, (some (pth 44)), (some ((pth 41), true))⟩,
⟨(.ld 3 (.tmp (pth 44))), opAt P 10 6 21, (some (pth 45)), (some ((pth 41), true))⟩,
⟨(.bin .eql (.tmp (pth 45)) (.val (.int .i64 (8)))), opAt P 10 6 22, (some (pth 46)), (some ((pth 41), true))⟩,
⟨(.pick (.tmp (pth 41)) (.tmp (pth 46)) (.val (.bool false))), opAt P 10 6 23, (some (pth 47)), none⟩,
⟨(.mv (.tmp (pth 47))), opAt P 10 6 24, (some (pth 0)), none⟩])
.ret)))))), [.tmp (pth 0)]⟩
theorem cf10_ok : cFn Tryd.prog 10 = some (cf10 Tryd.prog) := by kernel_rfl
def cf11 (P : Program) : FF := ⟨44, (.seq (.seqr [⟨.slow, opAt P 11 0 0, (some (pth 1)), none⟩,
⟨(.mv (.val (.bool false))), opAt P 11 0 1, (some (pth 2)), none⟩])
(.seq (.seqr [⟨(.call 20 []), opAt P 11 1 0, (some (pth 6)), none⟩,
⟨.slow, opAt P 11 1 1, (some (pth 3)), none⟩,
⟨(.st 73 (.tmp (pth 3)) (.tmp (pth 6))), opAt P 11 1 2, none, none⟩])
(.seq (.seq (.seqr [⟨(.fa (.tmp (pth 1)) 0), opAt P 11 2 0, (some (pth 7)), none⟩,
⟨(.ld 3 (.tmp (pth 7))), opAt P 11 2 1, (some (pth 8)), none⟩,
⟨(.call 21 [(.tmp (pth 8)), (.val (.int .i64 (1))), (.val (.int .i64 (7)))]), opAt P 11 2 2, (some (pth 9)), none⟩,
⟨(.un .not (.tmp (pth 9))), opAt P 11 2 3, (some (pth 10)), none⟩,
⟨(.mv (.tmp (pth 10))), opAt P 11 2 4, (some (pth 11)), none⟩,
⟨(.fa (.tmp (pth 1)) 1), opAt P 11 2 5, (some (pth 12)), (some ((pth 11), false))⟩,
⟨(.ld 3 (.tmp (pth 12))), opAt P 11 2 6, (some (pth 13)), (some ((pth 11), false))⟩,
⟨(.call 21 [(.tmp (pth 13)), (.val (.int .i64 (1))), (.val (.int .i64 (1048576)))]), opAt P 11 2 7, (some (pth 14)), (some ((pth 11), false))⟩,
⟨(.un .not (.tmp (pth 14))), opAt P 11 2 8, (some (pth 15)), (some ((pth 11), false))⟩,
⟨(.pick (.tmp (pth 11)) (.val (.bool true)) (.tmp (pth 15))), opAt P 11 2 9, (some (pth 16)), none⟩,
⟨(.mv (.tmp (pth 16))), opAt P 11 2 10, (some (pth 17)), none⟩,
⟨(.fa (.tmp (pth 1)) 2), opAt P 11 2 11, (some (pth 18)), (some ((pth 17), false))⟩,
⟨(.ld 3 (.tmp (pth 18))), opAt P 11 2 12, (some (pth 19)), (some ((pth 17), false))⟩,
⟨(.call 21 [(.tmp (pth 19)), (.val (.int .i64 (1))), (.val (.int .i64 (1099511627776)))]), opAt P 11 2 13, (some (pth 20)), (some ((pth 17), false))⟩,
⟨(.un .not (.tmp (pth 20))), opAt P 11 2 14, (some (pth 21)), (some ((pth 17), false))⟩,
⟨(.pick (.tmp (pth 17)) (.val (.bool true)) (.tmp (pth 21))), opAt P 11 2 15, (some (pth 22)), none⟩,
⟨(.mv (.tmp (pth 22))), opAt P 11 2 16, (some (pth 23)), none⟩,
⟨(.fa (.tmp (pth 1)) 3), opAt P 11 2 17, (some (pth 24)), (some ((pth 23), false))⟩,
⟨(.ld 23 (.tmp (pth 24))), opAt P 11 2 18, (some (pth 25)), (some ((pth 23), false))⟩,
⟨(.call 22 [(.tmp (pth 25))]), opAt P 11 2 19, (some (pth 26)), (some ((pth 23), false))⟩,
⟨(.un .not (.tmp (pth 26))), opAt P 11 2 20, (some (pth 27)), (some ((pth 23), false))⟩,
⟨(.pick (.tmp (pth 23)) (.val (.bool true)) (.tmp (pth 27))), opAt P 11 2 21, (some (pth 28)), none⟩])
(.cond (.tmp (pth 28)) (.seq (.seqr [⟨(.mv (.val (.bool false))), opAt P 11 3 0, (some (pth 2)), none⟩])
.ret)
.skip))
(.seq (.reg [⟨(.fa (.tmp (pth 1)) 0), opAt P 11 4 0, (some (pth 30)), none⟩,
⟨(.ld 3 (.tmp (pth 30))), opAt P 11 4 1, (some (pth 31)), none⟩,
⟨.slow, opAt P 11 4 2, (some (pth 32)), none⟩,
⟨(.ld 72 (.tmp (pth 32))), opAt P 11 4 3, (some (pth 33)), none⟩,
⟨(.ld 25 (.tmp (pth 1))), opAt P 11 4 4, (some (pth 34)), none⟩,
⟨.slow, opAt P 11 4 5, (some (pth 35)), none⟩,
⟨(.mv (.tmp (pth 35))), opAt P 11 4 6, (some (pth 29)), none⟩,
⟨(.ext (.tmp (pth 29)) 0), opAt P 11 4 7, (some (pth 36)), none⟩,
⟨(.ext (.tmp (pth 29)) 1), opAt P 11 4 8, (some (pth 37)), none⟩,
⟨.slow, opAt P 11 4 9, (some (pth 4)), none⟩,
⟨(.st 77 (.tmp (pth 4)) (.tmp (pth 36))), opAt P 11 4 10, none, none⟩,
⟨(.mv (.tmp (pth 37))), opAt P 11 4 11, (some (pth 5)), none⟩] [(1, 4), (2, 4), (3, 4), (1, 9), (2, 9), (3, 9), (4, 9), (5, 9)])
(.seq (.seqr [⟨(.mv (.tmp (pth 5))), opAt P 11 5 0, (some (pth 38)), none⟩,
⟨(.mv (.tmp (pth 38))), opAt P 11 5 1, (some (pth 39)), none⟩,
⟨(.ld 77 (.tmp (pth 4))), opAt P 11 5 2, (some (pth 40)), (some ((pth 39), true))⟩,
⟨(.ld 25 (.tmp (pth 1))), opAt P 11 5 3, (some (pth 41)), (some ((pth 39), true))⟩,
⟨(.bin .eql (.tmp (pth 40)) (.tmp (pth 41))), opAt P 11 5 4, (some (pth 42)), (some ((pth 39), true))⟩,
⟨(.pick (.tmp (pth 39)) (.tmp (pth 42)) (.val (.bool false))), opAt P 11 5 5, (some (pth 43)), none⟩,
⟨(.mv (.tmp (pth 43))), opAt P 11 5 6, (some (pth 2)), none⟩])
.ret))))), [.tmp (pth 2)]⟩
theorem cf11_ok : cFn Tryd.prog 11 = some (cf11 Tryd.prog) := by kernel_rfl
def cf12 (P : Program) : FF := ⟨13, (.seq (.seqr [⟨(.mv (.val (.slice none 0 0))), opAt P 12 0 0, (some (pth 6)), none⟩])
(.seq (.seqr [⟨(.mv (.tmp (pth 0))), opAt P 12 1 0, (some (pth 7)), none⟩,
⟨(.nc (.tmp (pth 7))), opAt P 12 1 1, (some (pth 8)), none⟩,
⟨(.fa (.tmp (pth 8)) 17), opAt P 12 1 2, (some (pth 9)), none⟩,
⟨(.st 3 (.tmp (pth 9)) (.val (.int .i64 (4)))), opAt P 12 1 3, none, none⟩])
(.seq (.seqr [⟨(.mv (.tmp (pth 2))), opAt P 12 2 0, (some (pth 10)), none⟩,
⟨(.mv (.tmp (pth 1))), opAt P 12 2 1, (some (pth 11)), none⟩,
⟨.slow, opAt P 12 2 2, (some (pth 12)), none⟩,
⟨(.mv (.tmp (pth 12))), opAt P 12 2 3, (some (pth 6)), none⟩])
.ret))), [.tmp (pth 6)]⟩
theorem cf12_ok : cFn Tryd.prog 12 = some (cf12 Tryd.prog) := by kernel_rfl
def cf13 (P : Program) : FF := ⟨26, (.seq (.seqr [⟨(.mv (.val (.slice none 0 0))), opAt P 13 0 0, (some (pth 4)), none⟩])
(.seq (.seqr [⟨(.mv (.tmp (pth 0))), opAt P 13 1 0, (some (pth 8)), none⟩,
⟨(.nc (.tmp (pth 8))), opAt P 13 1 1, (some (pth 9)), none⟩,
⟨(.fa (.tmp (pth 9)) 3), opAt P 13 1 2, (some (pth 10)), none⟩,
⟨(.ld 25 (.tmp (pth 10))), opAt P 13 1 3, (some (pth 11)), none⟩,
⟨.slow, opAt P 13 1 4, (some (pth 12)), none⟩,
⟨(.call 23 [(.tmp (pth 12))]), opAt P 13 1 5, (some (pth 13)), none⟩,
⟨(.mv (.tmp (pth 13))), opAt P 13 1 6, (some (pth 7)), none⟩,
⟨(.ext (.tmp (pth 7)) 0), opAt P 13 1 7, (some (pth 14)), none⟩,
⟨(.ext (.tmp (pth 7)) 1), opAt P 13 1 8, (some (pth 15)), none⟩,
⟨(.mv (.tmp (pth 14))), opAt P 13 1 9, (some (pth 5)), none⟩,
⟨(.mv (.tmp (pth 15))), opAt P 13 1 10, (some (pth 6)), none⟩])
(.seq (.seq (.seqr [⟨(.mv (.tmp (pth 6))), opAt P 13 2 0, (some (pth 16)), none⟩,
⟨(.bin .neq (.tmp (pth 16)) (.val (.int .i64 (0)))), opAt P 13 2 1, (some (pth 17)), none⟩])
(.cond (.tmp (pth 17)) (.seq (.seqr [⟨(.mv (.val (.slice none 0 0))), opAt P 13 3 0, (some (pth 4)), none⟩])
.ret)
.skip))
(.seq (.seqr [⟨(.mv (.tmp (pth 0))), opAt P 13 4 0, (some (pth 18)), none⟩,
⟨(.nc (.tmp (pth 18))), opAt P 13 4 1, (some (pth 19)), none⟩,
⟨(.fa (.tmp (pth 19)) 0), opAt P 13 4 2, (some (pth 20)), none⟩,
⟨(.ld 3 (.tmp (pth 20))), opAt P 13 4 3, (some (pth 21)), none⟩,
⟨(.mv (.tmp (pth 1))), opAt P 13 4 4, (some (pth 22)), none⟩,
⟨(.mv (.tmp (pth 5))), opAt P 13 4 5, (some (pth 23)), none⟩,
⟨.slow, opAt P 13 4 6, (some (pth 24)), none⟩,
⟨.slow, opAt P 13 4 7, (some (pth 25)), none⟩,
⟨(.mv (.tmp (pth 25))), opAt P 13 4 8, (some (pth 4)), none⟩])
.ret)))), [.tmp (pth 4)]⟩
theorem cf13_ok : cFn Tryd.prog 13 = some (cf13 Tryd.prog) := by kernel_rfl
def cf14 (P : Program) : FF := ⟨16, (.seq (.seqr [⟨(.mv (.val (.bool false))), opAt P 14 0 0, (some (pth 4)), none⟩])
(.seq (.seqr [⟨(.mv (.tmp (pth 1))), opAt P 14 1 0, (some (pth 5)), none⟩,
⟨(.bin .geq (.tmp (pth 5)) (.val (.int .i64 (8)))), opAt P 14 1 1, (some (pth 6)), none⟩,
⟨(.mv (.tmp (pth 6))), opAt P 14 1 2, (some (pth 7)), none⟩,
⟨(.mv (.tmp (pth 1))), opAt P 14 1 3, (some (pth 8)), (some ((pth 7), true))⟩,
⟨(.mv (.tmp (pth 0))), opAt P 14 1 4, (some (pth 9)), (some ((pth 7), true))⟩,
⟨(.nc (.tmp (pth 9))), opAt P 14 1 5, (some (pth 10)), (some ((pth 7), true))⟩,
⟨(.fa (.tmp (pth 10)) 1), opAt P 14 1 6, (some (pth 11)), (some ((pth 7), true))⟩,
⟨(.ld 3 (.tmp (pth 11))), opAt P 14 1 7, (some (pth 12)), (some ((pth 7), true))⟩,
⟨(.bin .add (.val (.int .i64 (8))) (.tmp (pth 12))), opAt P 14 1 8, (some (pth 13)), (some ((pth 7), true))⟩,
⟨(.bin .lss (.tmp (pth 8)) (.tmp (pth 13))), opAt P 14 1 9, (some (pth 14)), (some ((pth 7), true))⟩,
⟨(.pick (.tmp (pth 7)) (.tmp (pth 14)) (.val (.bool false))), opAt P 14 1 10, (some (pth 15)), none⟩,
⟨(.mv (.tmp (pth 15))), opAt P 14 1 11, (some (pth 4)), none⟩])
.ret)), [.tmp (pth 4)]⟩
theorem cf14_ok : cFn Tryd.prog 14 = some (cf14 Tryd.prog) := by kernel_rfl
def cf15 (P : Program) : FF := ⟨54, (.seq (.seqr [⟨.slow, opAt P 15 0 0, (some (pth 2)), none⟩,
⟨(.mv (.val (.int .i64 (0)))), opAt P 15 0 1, (some (pth 3)), none⟩])
(.seq (.seqr [⟨(.mv (.tmp (pth 0))), opAt P 15 1 0, (some (pth 10)), none⟩,
⟨(.call 24 [(.tmp (pth 10))]), opAt P 15 1 1, (some (pth 11)), none⟩,
⟨(.mv (.tmp (pth 11))), opAt P 15 1 2, (some (pth 9)), none⟩,
⟨(.ext (.tmp (pth 9)) 0), opAt P 15 1 3, (some (pth 12)), none⟩,
⟨(.ext (.tmp (pth 9)) 1), opAt P 15 1 4, (some (pth 13)), none⟩,
⟨(.mv (.tmp (pth 12))), opAt P 15 1 5, (some (pth 4)), none⟩,
⟨(.mv (.tmp (pth 13))), opAt P 15 1 6, (some (pth 5)), none⟩])
(.seq (.seq (.seqr [⟨(.mv (.tmp (pth 5))), opAt P 15 2 0, (some (pth 14)), none⟩,
⟨(.bin .neq (.tmp (pth 14)) (.val (.int .i64 (0)))), opAt P 15 2 1, (some (pth 15)), none⟩])
(.cond (.tmp (pth 15)) (.seq (.seqr [⟨.slow, opAt P 15 3 0, (some (pth 16)), none⟩,
⟨(.mv (.tmp (pth 5))), opAt P 15 3 1, (some (pth 17)), none⟩,
⟨(.st 62 (.tmp (pth 2)) (.tmp (pth 16))), opAt P 15 3 2, none, none⟩,
⟨(.mv (.tmp (pth 17))), opAt P 15 3 3, (some (pth 3)), none⟩])
.ret)
.skip))
(.seq (.seqr [⟨.slow, opAt P 15 4 0, (some (pth 6)), none⟩])
(.seq (.seqr [⟨.slow, opAt P 15 5 0, (some (pth 7)), none⟩])
(.seq (.seqr [⟨(.mv (.tmp (pth 4))), opAt P 15 6 0, (some (pth 18)), none⟩,
⟨(.call 25 [(.tmp (pth 18))]), opAt P 15 6 1, (some (pth 19)), none⟩,
⟨(.mv (.tmp (pth 19))), opAt P 15 6 2, (some (pth 8)), none⟩])
(.seq (.seqr [⟨(.mv (.tmp (pth 8))), opAt P 15 7 0, (some (pth 20)), none⟩,
⟨(.fa (.tmp (pth 6)) 0), opAt P 15 7 1, (some (pth 21)), none⟩,
⟨(.fa (.tmp (pth 6)) 1), opAt P 15 7 2, (some (pth 22)), none⟩,
⟨(.fa (.tmp (pth 6)) 2), opAt P 15 7 3, (some (pth 23)), none⟩,
⟨(.fa (.tmp (pth 6)) 3), opAt P 15 7 4, (some (pth 24)), none⟩,
⟨(.fa (.tmp (pth 6)) 4), opAt P 15 7 5, (some (pth 25)), none⟩,
⟨(.fa (.tmp (pth 6)) 5), opAt P 15 7 6, (some (pth 26)), none⟩,
⟨(.fa (.tmp (pth 6)) 6), opAt P 15 7 7, (some (pth 27)), none⟩,
⟨.slow, opAt P 15 7 8, (some (pth 28)), none⟩,
⟨(.call 26 [(.tmp (pth 20)), (.tmp (pth 28))]), opAt P 15 7 9, (some (pth 29)), none⟩])
(.seq (.seqr [⟨(.ld 3 (.tmp (pth 7))), opAt P 15 8 0, (some (pth 30)), none⟩,
⟨(.fa (.tmp (pth 6)) 7), opAt P 15 8 1, (some (pth 31)), none⟩,
⟨(.st 32 (.tmp (pth 31)) (.tmp (pth 30))), opAt P 15 8 2, none, none⟩])
(.seq (.seqr [⟨(.mv (.tmp (pth 8))), opAt P 15 9 0, (some (pth 32)), none⟩,
⟨(.call 27 [(.tmp (pth 32))]), opAt P 15 9 1, (some (pth 33)), none⟩,
⟨.slow, opAt P 15 9 2, (some (pth 34)), none⟩,
⟨(.fa (.tmp (pth 6)) 8), opAt P 15 9 3, (some (pth 35)), none⟩,
⟨(.fa (.tmp (pth 35)) 0), opAt P 15 9 4, (some (pth 36)), none⟩,
⟨(.st 9 (.tmp (pth 36)) (.tmp (pth 34))), opAt P 15 9 5, none, none⟩])
(.seq (.seqr [⟨(.mv (.tmp (pth 8))), opAt P 15 10 0, (some (pth 37)), none⟩,
⟨(.call 27 [(.tmp (pth 37))]), opAt P 15 10 1, (some (pth 38)), none⟩,
⟨.slow, opAt P 15 10 2, (some (pth 39)), none⟩,
⟨(.fa (.tmp (pth 6)) 8), opAt P 15 10 3, (some (pth 40)), none⟩,
⟨(.fa (.tmp (pth 40)) 1), opAt P 15 10 4, (some (pth 41)), none⟩,
⟨(.st 9 (.tmp (pth 41)) (.tmp (pth 39))), opAt P 15 10 5, none, none⟩])
(.seq (.seqr [⟨(.mv (.tmp (pth 8))), opAt P 15 11 0, (some (pth 42)), none⟩,
⟨(.call 28 [(.tmp (pth 6)), (.tmp (pth 42))]), opAt P 15 11 1, (some (pth 43)), none⟩])
(.seq (.seq (.seqr [⟨(.mv (.tmp (pth 8))), opAt P 15 12 0, (some (pth 44)), none⟩,
⟨(.call 29 [(.tmp (pth 44))]), opAt P 15 12 1, (some (pth 45)), none⟩,
⟨(.un .not (.tmp (pth 45))), opAt P 15 12 2, (some (pth 46)), none⟩,
⟨(.mv (.tmp (pth 46))), opAt P 15 12 3, (some (pth 47)), none⟩,
⟨(.ld 62 (.tmp (pth 6))), opAt P 15 12 4, (some (pth 48)), (some ((pth 47), false))⟩,
⟨(.call 30 [(.tmp (pth 48))]), opAt P 15 12 5, (some (pth 49)), (some ((pth 47), false))⟩,
⟨(.un .not (.tmp (pth 49))), opAt P 15 12 6, (some (pth 50)), (some ((pth 47), false))⟩,
⟨(.pick (.tmp (pth 47)) (.val (.bool true)) (.tmp (pth 50))), opAt P 15 12 7, (some (pth 51)), none⟩])
(.cond (.tmp (pth 51)) (.seq (.seqr [⟨.slow, opAt P 15 13 0, (some (pth 52)), none⟩,
⟨(.st 62 (.tmp (pth 2)) (.tmp (pth 52))), opAt P 15 13 1, none, none⟩,
⟨(.mv (.val (.int .i64 (3)))), opAt P 15 13 2, (some (pth 3)), none⟩])
.ret)
.skip))
(.seq (.seqr [⟨(.ld 62 (.tmp (pth 6))), opAt P 15 14 0, (some (pth 53)), none⟩,
⟨(.st 62 (.tmp (pth 2)) (.tmp (pth 53))), opAt P 15 14 1, none, none⟩,
⟨(.mv (.val (.int .i64 (0)))), opAt P 15 14 2, (some (pth 3)), none⟩])
.ret))))))))))))), [.cell (pth 2) 62, .tmp (pth 3)]⟩
theorem cf15_ok : cFn Tryd.prog 15 = some (cf15 Tryd.prog) := by kernel_rfl
def cf16 (P : Program) : FF := ⟨24, (.seq (.seqr [⟨.slow, opAt P 16 0 0, (some (pth 2)), none⟩,
⟨.slow, opAt P 16 0 1, (some (pth 3)), none⟩,
⟨(.mv (.val (.bool false))), opAt P 16 0 2, (some (pth 4)), none⟩])
(.seq (.seqr [⟨(.fa (.tmp (pth 2)) 0), opAt P 16 1 0, (some (pth 5)), none⟩,
⟨(.ld 3 (.tmp (pth 5))), opAt P 16 1 1, (some (pth 6)), none⟩,
⟨(.fa (.tmp (pth 3)) 0), opAt P 16 1 2, (some (pth 7)), none⟩,
⟨(.ld 3 (.tmp (pth 7))), opAt P 16 1 3, (some (pth 8)), none⟩,
⟨(.bin .eql (.tmp (pth 6)) (.tmp (pth 8))), opAt P 16 1 4, (some (pth 9)), none⟩,
⟨(.mv (.tmp (pth 9))), opAt P 16 1 5, (some (pth 10)), none⟩,
⟨(.fa (.tmp (pth 2)) 1), opAt P 16 1 6, (some (pth 11)), (some ((pth 10), true))⟩,
⟨(.ld 3 (.tmp (pth 11))), opAt P 16 1 7, (some (pth 12)), (some ((pth 10), true))⟩,
⟨(.fa (.tmp (pth 3)) 1), opAt P 16 1 8, (some (pth 13)), (some ((pth 10), true))⟩,
⟨(.ld 3 (.tmp (pth 13))), opAt P 16 1 9, (some (pth 14)), (some ((pth 10), true))⟩,
⟨(.bin .eql (.tmp (pth 12)) (.tmp (pth 14))), opAt P 16 1 10, (some (pth 15)), (some ((pth 10), true))⟩,
⟨(.pick (.tmp (pth 10)) (.tmp (pth 15)) (.val (.bool false))), opAt P 16 1 11, (some (pth 16)), none⟩,
⟨(.mv (.tmp (pth 16))), opAt P 16 1 12, (some (pth 17)), none⟩,
⟨(.fa (.tmp (pth 2)) 2), opAt P 16 1 13, (some (pth 18)), (some ((pth 17), true))⟩,
⟨(.ld 3 (.tmp (pth 18))), opAt P 16 1 14, (some (pth 19)), (some ((pth 17), true))⟩,
⟨(.fa (.tmp (pth 3)) 2), opAt P 16 1 15, (some (pth 20)), (some ((pth 17), true))⟩,
⟨(.ld 3 (.tmp (pth 20))), opAt P 16 1 16, (some (pth 21)), (some ((pth 17), true))⟩,
⟨(.bin .eql (.tmp (pth 19)) (.tmp (pth 21))), opAt P 16 1 17, (some (pth 22)), (some ((pth 17), true))⟩,
⟨(.pick (.tmp (pth 17)) (.tmp (pth 22)) (.val (.bool false))), opAt P 16 1 18, (some (pth 23)), none⟩,
⟨(.mv (.tmp (pth 23))), opAt P 16 1 19, (some (pth 4)), none⟩])
.ret)), [.tmp (pth 4)]⟩
theorem cf16_ok : cFn Tryd.prog 16 = some (cf16 Tryd.prog) := by kernel_rfl
def cf17 (P : Program) : FF := ⟨8, (.seq (.seqr [⟨(.mv (.val (.slice none 0 0))), opAt P 17 0 0, (some (pth 2)), none⟩])
(.seq (.seq (.seqr [⟨(.mv (.tmp (pth 0))), opAt P 17 1 0, (some (pth 3)), none⟩,
⟨(.bin .eql (.tmp (pth 3)) (.val (.slice none 0 0))), opAt P 17 1 1, (some (pth 4)), none⟩])
(.cond (.tmp (pth 4)) (.seq (.seqr [⟨(.mv (.val (.slice none 0 0))), opAt P 17 2 0, (some (pth 2)), none⟩])
.ret)
.skip))
(.seq (.seqr [⟨.slow, opAt P 17 3 0, (some (pth 5)), none⟩,
⟨(.mv (.tmp (pth 0))), opAt P 17 3 1, (some (pth 6)), none⟩,
⟨.slow, opAt P 17 3 2, (some (pth 7)), none⟩,
⟨(.mv (.tmp (pth 7))), opAt P 17 3 3, (some (pth 2)), none⟩])
.ret))), [.tmp (pth 2)]⟩
theorem cf17_ok : cFn Tryd.prog 17 = some (cf17 Tryd.prog) := by kernel_rfl
def cf18 (P : Program) : FF := ⟨24, (.seq (.seqr [⟨(.mv (.val (.pointer none))), opAt P 18 0 0, (some (pth 4)), none⟩,
⟨(.mv (.val (.int .i64 (0)))), opAt P 18 0 1, (some (pth 5)), none⟩])
(.seq (.seq (.seqr [⟨(.mv (.tmp (pth 0))), opAt P 18 1 0, (some (pth 6)), none⟩,
⟨(.bin .lss (.tmp (pth 6)) (.val (.int .i64 (32)))), opAt P 18 1 1, (some (pth 7)), none⟩,
⟨(.mv (.tmp (pth 7))), opAt P 18 1 2, (some (pth 8)), none⟩,
⟨(.mv (.tmp (pth 0))), opAt P 18 1 3, (some (pth 9)), (some ((pth 8), false))⟩,
⟨(.bin .geq (.tmp (pth 9)) (.val (.int .i64 (36)))), opAt P 18 1 4, (some (pth 10)), (some ((pth 8), false))⟩,
⟨(.pick (.tmp (pth 8)) (.val (.bool true)) (.tmp (pth 10))), opAt P 18 1 5, (some (pth 11)), none⟩,
⟨(.mv (.tmp (pth 11))), opAt P 18 1 6, (some (pth 12)), none⟩,
⟨(.mv (.tmp (pth 1))), opAt P 18 1 7, (some (pth 13)), (some ((pth 12), false))⟩,
⟨(.bin .lss (.tmp (pth 13)) (.val (.int .i64 (1)))), opAt P 18 1 8, (some (pth 14)), (some ((pth 12), false))⟩,
⟨(.pick (.tmp (pth 12)) (.val (.bool true)) (.tmp (pth 14))), opAt P 18 1 9, (some (pth 15)), none⟩,
⟨(.mv (.tmp (pth 15))), opAt P 18 1 10, (some (pth 16)), none⟩,
⟨(.mv (.tmp (pth 1))), opAt P 18 1 11, (some (pth 17)), (some ((pth 16), false))⟩,
⟨(.bin .gtr (.tmp (pth 17)) (.val (.int .i64 (6)))), opAt P 18 1 12, (some (pth 18)), (some ((pth 16), false))⟩,
⟨(.pick (.tmp (pth 16)) (.val (.bool true)) (.tmp (pth 18))), opAt P 18 1 13, (some (pth 19)), none⟩])
(.cond (.tmp (pth 19)) (.seq (.seqr [⟨(.mv (.val (.pointer none))), opAt P 18 2 0, (some (pth 4)), none⟩,
⟨(.mv (.val (.int .i64 (1)))), opAt P 18 2 1, (some (pth 5)), none⟩])
.ret)
.skip))
(.seq (.seqr [⟨(.mv (.tmp (pth 0))), opAt P 18 3 0, (some (pth 20)), none⟩,
⟨(.mv (.tmp (pth 1))), opAt P 18 3 1, (some (pth 21)), none⟩,
⟨.slow, opAt P 18 3 2, (some (pth 22)), none⟩,
⟨.slow, opAt P 18 3 3, (some (pth 23)), none⟩,
⟨(.mv (.tmp (pth 23))), opAt P 18 3 4, (some (pth 4)), none⟩,
⟨(.mv (.val (.int .i64 (0)))), opAt P 18 3 5, (some (pth 5)), none⟩])
.ret))), [.tmp (pth 4), .tmp (pth 5)]⟩
theorem cf18_ok : cFn Tryd.prog 18 = some (cf18 Tryd.prog) := by kernel_rfl
def cf19 (P : Program) : FF := ⟨3, (.seq (.seqr [⟨.slow, opAt P 19 0 0, (some (pth 0)), none⟩])
(.seq (.seqr [⟨.slow, opAt P 19 1 0, (some (pth 1)), none⟩,
⟨.slow, opAt P 19 1 1, (some (pth 2)), none⟩,
⟨(.st 25 (.tmp (pth 0)) (.tmp (pth 2))), opAt P 19 1 2, none, none⟩])
.ret)), [.cell (pth 0) 25]⟩
theorem cf19_ok : cFn Tryd.prog 19 = some (cf19 Tryd.prog) := by kernel_rfl
def cf20 (P : Program) : FF := ⟨2, (.seq (.seqr [⟨.slow, opAt P 20 0 0, (some (pth 0)), none⟩])
(.seq (.seqr [⟨.slow, opAt P 20 1 0, (some (pth 1)), none⟩,
⟨(.st 73 (.tmp (pth 0)) (.tmp (pth 1))), opAt P 20 1 1, none, none⟩])
.ret)), [.cell (pth 0) 73]⟩
theorem cf20_ok : cFn Tryd.prog 20 = some (cf20 Tryd.prog) := by kernel_rfl
def cf21 (P : Program) : FF := ⟨15, (.seq (.seqr [⟨(.mv (.val (.bool false))), opAt P 21 0 0, (some (pth 6)), none⟩])
(.seq (.seqr [⟨(.mv (.tmp (pth 0))), opAt P 21 1 0, (some (pth 7)), none⟩,
⟨(.mv (.tmp (pth 1))), opAt P 21 1 1, (some (pth 8)), none⟩,
⟨(.bin .geq (.tmp (pth 7)) (.tmp (pth 8))), opAt P 21 1 2, (some (pth 9)), none⟩,
⟨(.mv (.tmp (pth 9))), opAt P 21 1 3, (some (pth 10)), none⟩,
⟨(.mv (.tmp (pth 0))), opAt P 21 1 4, (some (pth 11)), (some ((pth 10), true))⟩,
⟨(.mv (.tmp (pth 2))), opAt P 21 1 5, (some (pth 12)), (some ((pth 10), true))⟩,
⟨(.bin .leq (.tmp (pth 11)) (.tmp (pth 12))), opAt P 21 1 6, (some (pth 13)), (some ((pth 10), true))⟩,
⟨(.pick (.tmp (pth 10)) (.tmp (pth 13)) (.val (.bool false))), opAt P 21 1 7, (some (pth 14)), none⟩,
⟨(.mv (.tmp (pth 14))), opAt P 21 1 8, (some (pth 6)), none⟩])
.ret)), [.tmp (pth 6)]⟩
theorem cf21_ok : cFn Tryd.prog 21 = some (cf21 Tryd.prog) := by kernel_rfl
def cf22 (P : Program) : FF := ⟨13, (.seq (.seqr [⟨.slow, opAt P 22 0 0, (some (pth 1)), none⟩,
⟨(.mv (.val (.bool false))), opAt P 22 0 1, (some (pth 2)), none⟩])
(.seq (.seqr [⟨(.fa (.tmp (pth 1)) 0), opAt P 22 1 0, (some (pth 3)), none⟩,
⟨(.ld 9 (.tmp (pth 3))), opAt P 22 1 1, (some (pth 4)), none⟩,
⟨.slow, opAt P 22 1 2, (some (pth 5)), none⟩,
⟨(.call 21 [(.tmp (pth 5)), (.val (.int .i64 (1))), (.val (.int .i64 (16)))]), opAt P 22 1 3, (some (pth 6)), none⟩,
⟨(.mv (.tmp (pth 6))), opAt P 22 1 4, (some (pth 7)), none⟩,
⟨(.fa (.tmp (pth 1)) 1), opAt P 22 1 5, (some (pth 8)), (some ((pth 7), true))⟩,
⟨(.ld 9 (.tmp (pth 8))), opAt P 22 1 6, (some (pth 9)), (some ((pth 7), true))⟩,
⟨.slow, opAt P 22 1 7, (some (pth 10)), (some ((pth 7), true))⟩,
⟨(.call 21 [(.tmp (pth 10)), (.val (.int .i64 (1))), (.val (.int .i64 (16)))]), opAt P 22 1 8, (some (pth 11)), (some ((pth 7), true))⟩,
⟨(.pick (.tmp (pth 7)) (.tmp (pth 11)) (.val (.bool false))), opAt P 22 1 9, (some (pth 12)), none⟩,
⟨(.mv (.tmp (pth 12))), opAt P 22 1 10, (some (pth 2)), none⟩])
.ret)), [.tmp (pth 2)]⟩
theorem cf22_ok : cFn Tryd.prog 22 = some (cf22 Tryd.prog) := by kernel_rfl
def cf23 (P : Program) : FF := ⟨46, (.seq (.seqr [⟨.slow, opAt P 23 0 0, (some (pth 1)), none⟩,
⟨(.mv (.val (.slice none 0 0))), opAt P 23 0 1, (some (pth 2)), none⟩,
⟨(.mv (.val (.int .i64 (0)))), opAt P 23 0 2, (some (pth 3)), none⟩])
(.seq (.seq (.seqr [⟨(.ld 62 (.tmp (pth 1))), opAt P 23 1 0, (some (pth 6)), none⟩,
⟨(.call 30 [(.tmp (pth 6))]), opAt P 23 1 1, (some (pth 7)), none⟩,
⟨(.un .not (.tmp (pth 7))), opAt P 23 1 2, (some (pth 8)), none⟩])
(.cond (.tmp (pth 8)) (.seq (.seqr [⟨(.mv (.val (.slice none 0 0))), opAt P 23 2 0, (some (pth 2)), none⟩,
⟨(.mv (.val (.int .i64 (1)))), opAt P 23 2 1, (some (pth 3)), none⟩])
.ret)
.skip))
(.seq (.seqr [⟨.slow, opAt P 23 3 0, (some (pth 4)), none⟩])
(.seq (.seqr [⟨(.fa (.tmp (pth 1)) 0), opAt P 23 4 0, (some (pth 9)), none⟩,
⟨(.ld 3 (.tmp (pth 9))), opAt P 23 4 1, (some (pth 10)), none⟩,
⟨(.fa (.tmp (pth 1)) 1), opAt P 23 4 2, (some (pth 11)), none⟩,
⟨(.ld 3 (.tmp (pth 11))), opAt P 23 4 3, (some (pth 12)), none⟩,
⟨(.fa (.tmp (pth 1)) 2), opAt P 23 4 4, (some (pth 13)), none⟩,
⟨(.ld 3 (.tmp (pth 13))), opAt P 23 4 5, (some (pth 14)), none⟩,
⟨(.fa (.tmp (pth 1)) 3), opAt P 23 4 6, (some (pth 15)), none⟩,
⟨(.ld 3 (.tmp (pth 15))), opAt P 23 4 7, (some (pth 16)), none⟩,
⟨(.fa (.tmp (pth 1)) 4), opAt P 23 4 8, (some (pth 17)), none⟩,
⟨(.ld 3 (.tmp (pth 17))), opAt P 23 4 9, (some (pth 18)), none⟩,
⟨(.fa (.tmp (pth 1)) 5), opAt P 23 4 10, (some (pth 19)), none⟩,
⟨(.ld 3 (.tmp (pth 19))), opAt P 23 4 11, (some (pth 20)), none⟩,
⟨(.fa (.tmp (pth 1)) 6), opAt P 23 4 12, (some (pth 21)), none⟩,
⟨(.ld 3 (.tmp (pth 21))), opAt P 23 4 13, (some (pth 22)), none⟩,
⟨(.fa (.tmp (pth 1)) 7), opAt P 23 4 14, (some (pth 23)), none⟩,
⟨(.ld 32 (.tmp (pth 23))), opAt P 23 4 15, (some (pth 24)), none⟩,
⟨.slow, opAt P 23 4 16, (some (pth 25)), none⟩,
⟨(.call 36 [(.tmp (pth 4)), (.tmp (pth 25))]), opAt P 23 4 17, (some (pth 26)), none⟩])
(.seq (.seqr [⟨(.fa (.tmp (pth 1)) 8), opAt P 23 5 0, (some (pth 27)), none⟩,
⟨(.fa (.tmp (pth 27)) 0), opAt P 23 5 1, (some (pth 28)), none⟩,
⟨(.ld 9 (.tmp (pth 28))), opAt P 23 5 2, (some (pth 29)), none⟩,
⟨.slow, opAt P 23 5 3, (some (pth 30)), none⟩,
⟨(.fa (.tmp (pth 1)) 8), opAt P 23 5 4, (some (pth 31)), none⟩,
⟨(.fa (.tmp (pth 31)) 1), opAt P 23 5 5, (some (pth 32)), none⟩,
⟨(.ld 9 (.tmp (pth 32))), opAt P 23 5 6, (some (pth 33)), none⟩,
⟨.slow, opAt P 23 5 7, (some (pth 34)), none⟩,
⟨.slow, opAt P 23 5 8, (some (pth 35)), none⟩,
⟨(.call 37 [(.tmp (pth 4)), (.tmp (pth 35))]), opAt P 23 5 9, (some (pth 36)), none⟩])
(.seq (.seqr [⟨(.ld 62 (.tmp (pth 1))), opAt P 23 6 0, (some (pth 37)), none⟩,
⟨(.call 38 [(.tmp (pth 37))]), opAt P 23 6 1, (some (pth 38)), none⟩,
⟨(.mv (.tmp (pth 38))), opAt P 23 6 2, (some (pth 5)), none⟩])
(.seq (.seqr [⟨(.mv (.tmp (pth 5))), opAt P 23 7 0, (some (pth 39)), none⟩,
⟨.slow, opAt P 23 7 1, (some (pth 40)), none⟩])
(.seq (.seqr [⟨(.call 40 [(.tmp (pth 4))]), opAt P 23 8 0, (some (pth 41)), none⟩,
⟨.slow, opAt P 23 8 1, (some (pth 42)), none⟩,
⟨(.call 39 [(.tmp (pth 42))]), opAt P 23 8 2, (some (pth 43)), none⟩,
⟨(.ext (.tmp (pth 43)) 0), opAt P 23 8 3, (some (pth 44)), none⟩,
⟨(.ext (.tmp (pth 43)) 1), opAt P 23 8 4, (some (pth 45)), none⟩,
⟨(.mv (.tmp (pth 44))), opAt P 23 8 5, (some (pth 2)), none⟩,
⟨(.mv (.tmp (pth 45))), opAt P 23 8 6, (some (pth 3)), none⟩])
.ret)))))))), [.tmp (pth 2), .tmp (pth 3)]⟩
theorem cf23_ok : cFn Tryd.prog 23 = some (cf23 Tryd.prog) := by kernel_rfl
def cf24 (P : Program) : FF := ⟨21, (.seq (.seqr [⟨(.mv (.val (.slice none 0 0))), opAt P 24 0 0, (some (pth 2)), none⟩,
⟨(.mv (.val (.int .i64 (0)))), opAt P 24 0 1, (some (pth 3)), none⟩])
(.seq (.seqr [⟨(.mv (.tmp (pth 0))), opAt P 24 1 0, (some (pth 8)), none⟩,
⟨(.call 41 [(.tmp (pth 8))]), opAt P 24 1 1, (some (pth 9)), none⟩,
⟨(.mv (.tmp (pth 9))), opAt P 24 1 2, (some (pth 7)), none⟩,
⟨(.ext (.tmp (pth 7)) 0), opAt P 24 1 3, (some (pth 10)), none⟩,
⟨(.ext (.tmp (pth 7)) 1), opAt P 24 1 4, (some (pth 11)), none⟩,
⟨(.ext (.tmp (pth 7)) 2), opAt P 24 1 5, (some (pth 12)), none⟩,
⟨(.mv (.tmp (pth 10))), opAt P 24 1 6, (some (pth 4)), none⟩,
⟨(.mv (.tmp (pth 11))), opAt P 24 1 7, (some (pth 5)), none⟩,
⟨(.mv (.tmp (pth 12))), opAt P 24 1 8, (some (pth 6)), none⟩])
(.seq (.seq (.seqr [⟨(.mv (.tmp (pth 6))), opAt P 24 2 0, (some (pth 13)), none⟩,
⟨(.bin .neq (.tmp (pth 13)) (.val (.int .i64 (0)))), opAt P 24 2 1, (some (pth 14)), none⟩])
(.cond (.tmp (pth 14)) (.seq (.seqr [⟨(.mv (.tmp (pth 6))), opAt P 24 3 0, (some (pth 15)), none⟩,
⟨(.mv (.val (.slice none 0 0))), opAt P 24 3 1, (some (pth 2)), none⟩,
⟨(.mv (.tmp (pth 15))), opAt P 24 3 2, (some (pth 3)), none⟩])
.ret)
.skip))
(.seq (.seq (.seqr [⟨(.mv (.tmp (pth 5))), opAt P 24 4 0, (some (pth 16)), none⟩,
⟨(.mv (.tmp (pth 0))), opAt P 24 4 1, (some (pth 17)), none⟩,
⟨.slow, opAt P 24 4 2, (some (pth 18)), none⟩,
⟨(.bin .neq (.tmp (pth 16)) (.tmp (pth 18))), opAt P 24 4 3, (some (pth 19)), none⟩])
(.cond (.tmp (pth 19)) (.seq (.seqr [⟨(.mv (.val (.slice none 0 0))), opAt P 24 5 0, (some (pth 2)), none⟩,
⟨(.mv (.val (.int .i64 (3)))), opAt P 24 5 1, (some (pth 3)), none⟩])
.ret)
.skip))
(.seq (.seqr [⟨(.mv (.tmp (pth 4))), opAt P 24 6 0, (some (pth 20)), none⟩,
⟨(.mv (.tmp (pth 20))), opAt P 24 6 1, (some (pth 2)), none⟩,
⟨(.mv (.val (.int .i64 (0)))), opAt P 24 6 2, (some (pth 3)), none⟩])
.ret))))), [.tmp (pth 2), .tmp (pth 3)]⟩
theorem cf24_ok : cFn Tryd.prog 24 = some (cf24 Tryd.prog) := by kernel_rfl
def cf25 (P : Program) : FF := ⟨7, (.seq (.seqr [⟨(.mv (.val (.pointer none))), opAt P 25 0 0, (some (pth 2)), none⟩])
(.seq (.seqr [⟨(.mv (.tmp (pth 0))), opAt P 25 1 0, (some (pth 3)), none⟩,
⟨(.call 42 [(.tmp (pth 3))]), opAt P 25 1 1, (some (pth 4)), none⟩,
⟨.slow, opAt P 25 1 2, (some (pth 5)), none⟩,
⟨.slow, opAt P 25 1 3, (some (pth 6)), none⟩,
⟨(.mv (.tmp (pth 6))), opAt P 25 1 4, (some (pth 2)), none⟩])
.ret)), [.tmp (pth 2)]⟩
theorem cf25_ok : cFn Tryd.prog 25 = some (cf25 Tryd.prog) := by kernel_rfl
def cf26 (P : Program) : FF := ⟨21, (.seq (.seqr [⟨(.mv (.tmp (pth 1))), opAt P 26 0 0, (some (pth 7)), none⟩,
⟨.slow, opAt P 26 0 1, (some (pth 8)), none⟩,
⟨(.mv (.val (.int .i64 (0)))), opAt P 26 0 2, (some (pth 9)), none⟩])
(.block 0 (.loop (.seq (.seqr [⟨(.bin .lss (.tmp (pth 9)) (.tmp (pth 8))), opAt P 26 1 0, (some (pth 10)), none⟩])
(.seq (.cond (.tmp (pth 10)) .skip
(.exit 0))
(.seq (.block 1 (.seq (.seqr [⟨(.ia (.tmp (pth 7)) (.tmp (pth 9)) 1), opAt P 26 2 0, (some (pth 11)), none⟩,
⟨(.ld 85 (.tmp (pth 11))), opAt P 26 2 1, (some (pth 12)), none⟩,
⟨(.mv (.tmp (pth 12))), opAt P 26 2 2, (some (pth 5)), none⟩])
(.seq (.seqr [⟨(.mv (.tmp (pth 0))), opAt P 26 3 0, (some (pth 13)), none⟩,
⟨(.call 43 [(.tmp (pth 13))]), opAt P 26 3 1, (some (pth 14)), none⟩,
⟨(.mv (.tmp (pth 14))), opAt P 26 3 2, (some (pth 6)), none⟩])
(.seq (.seqr [⟨(.mv (.tmp (pth 5))), opAt P 26 4 0, (some (pth 15)), none⟩,
⟨(.bin .neq (.tmp (pth 15)) (.val (.pointer none))), opAt P 26 4 1, (some (pth 16)), none⟩])
(.cond (.tmp (pth 16)) (.seqr [⟨(.mv (.tmp (pth 5))), opAt P 26 5 0, (some (pth 17)), none⟩,
⟨(.mv (.tmp (pth 6))), opAt P 26 5 1, (some (pth 18)), none⟩,
⟨(.nc (.tmp (pth 17))), opAt P 26 5 2, (some (pth 19)), none⟩,
⟨(.st 3 (.tmp (pth 19)) (.tmp (pth 18))), opAt P 26 5 3, none, none⟩])
.skip)))))
(.seqr [⟨(.bin .add (.tmp (pth 9)) (.val (.int .i64 (1)))), opAt P 26 6 0, (some (pth 20)), none⟩,
⟨(.mv (.tmp (pth 20))), opAt P 26 6 1, (some (pth 9)), none⟩]))))))), []⟩
theorem cf26_ok : cFn Tryd.prog 26 = some (cf26 Tryd.prog) := by kernel_rfl
def cf27 (P : Program) : FF := ⟨7, (.seq (.seqr [⟨(.mv (.val (.slice none 0 0))), opAt P 27 0 0, (some (pth 2)), none⟩])
(.seq (.seqr [⟨(.mv (.tmp (pth 0))), opAt P 27 1 0, (some (pth 3)), none⟩,
⟨(.mv (.tmp (pth 0))), opAt P 27 1 1, (some (pth 4)), none⟩,
⟨(.call 43 [(.tmp (pth 4))]), opAt P 27 1 2, (some (pth 5)), none⟩,
⟨(.call 44 [(.tmp (pth 3)), (.tmp (pth 5))]), opAt P 27 1 3, (some (pth 6)), none⟩,
⟨(.mv (.tmp (pth 6))), opAt P 27 1 4, (some (pth 2)), none⟩])
.ret)), [.tmp (pth 2)]⟩
theorem cf27_ok : cFn Tryd.prog 27 = some (cf27 Tryd.prog) := by kernel_rfl
def cf28 (P : Program) : FF := ⟨77, (.seq (.seqr [⟨(.mv (.val (.int .i64 (0)))), opAt P 28 0 0, (some (pth 4)), none⟩])
(.seq (.seq (.seqr [⟨(.mv (.tmp (pth 0))), opAt P 28 1 0, (some (pth 5)), none⟩,
⟨(.nc (.tmp (pth 5))), opAt P 28 1 1, (some (pth 6)), none⟩,
⟨(.fa (.tmp (pth 6)) 0), opAt P 28 1 2, (some (pth 7)), none⟩,
⟨(.ld 3 (.tmp (pth 7))), opAt P 28 1 3, (some (pth 8)), none⟩])
(.block 0 (.seq (.seqr [⟨(.bin .eql (.tmp (pth 8)) (.val (.int .i64 (3)))), opAt P 28 2 0, (some (pth 15)), none⟩,
⟨(.mv (.tmp (pth 15))), opAt P 28 2 1, (some (pth 14)), none⟩])
(.cond (.tmp (pth 14)) (.seqr [⟨(.mv (.tmp (pth 0))), opAt P 28 3 0, (some (pth 17)), none⟩,
⟨(.mv (.tmp (pth 1))), opAt P 28 3 1, (some (pth 18)), none⟩,
⟨(.call 27 [(.tmp (pth 18))]), opAt P 28 3 2, (some (pth 19)), none⟩,
⟨(.call 45 [(.tmp (pth 19))]), opAt P 28 3 3, (some (pth 20)), none⟩,
⟨(.mv (.tmp (pth 20))), opAt P 28 3 4, (some (pth 16)), none⟩,
⟨(.ext (.tmp (pth 16)) 0), opAt P 28 3 5, (some (pth 21)), none⟩,
⟨(.ext (.tmp (pth 16)) 1), opAt P 28 3 6, (some (pth 22)), none⟩,
⟨(.nc (.tmp (pth 17))), opAt P 28 3 7, (some (pth 23)), none⟩,
⟨(.fa (.tmp (pth 23)) 28), opAt P 28 3 8, (some (pth 24)), none⟩,
⟨(.st 58 (.tmp (pth 24)) (.tmp (pth 21))), opAt P 28 3 9, none, none⟩,
⟨(.mv (.tmp (pth 22))), opAt P 28 3 10, (some (pth 4)), none⟩])
(.seq (.seqr [⟨(.bin .eql (.tmp (pth 8)) (.val (.int .i64 (4)))), opAt P 28 4 0, (some (pth 26)), none⟩,
⟨(.mv (.tmp (pth 26))), opAt P 28 4 1, (some (pth 25)), none⟩])
(.cond (.tmp (pth 25)) (.seqr [⟨(.mv (.tmp (pth 0))), opAt P 28 5 0, (some (pth 28)), none⟩,
⟨(.mv (.tmp (pth 1))), opAt P 28 5 1, (some (pth 29)), none⟩,
⟨(.call 27 [(.tmp (pth 29))]), opAt P 28 5 2, (some (pth 30)), none⟩,
⟨(.call 46 [(.tmp (pth 30))]), opAt P 28 5 3, (some (pth 31)), none⟩,
⟨(.mv (.tmp (pth 31))), opAt P 28 5 4, (some (pth 27)), none⟩,
⟨(.ext (.tmp (pth 27)) 0), opAt P 28 5 5, (some (pth 32)), none⟩,
⟨(.ext (.tmp (pth 27)) 1), opAt P 28 5 6, (some (pth 33)), none⟩,
⟨(.nc (.tmp (pth 28))), opAt P 28 5 7, (some (pth 34)), none⟩,
⟨(.fa (.tmp (pth 34)) 31), opAt P 28 5 8, (some (pth 35)), none⟩,
⟨(.st 60 (.tmp (pth 35)) (.tmp (pth 32))), opAt P 28 5 9, none, none⟩,
⟨(.mv (.tmp (pth 33))), opAt P 28 5 10, (some (pth 4)), none⟩])
(.seq (.seqr [⟨(.bin .eql (.tmp (pth 8)) (.val (.int .i64 (5)))), opAt P 28 6 0, (some (pth 37)), none⟩,
⟨(.mv (.tmp (pth 37))), opAt P 28 6 1, (some (pth 36)), none⟩])
(.cond (.tmp (pth 36)) (.seqr [⟨(.mv (.tmp (pth 0))), opAt P 28 7 0, (some (pth 39)), none⟩,
⟨(.mv (.tmp (pth 1))), opAt P 28 7 1, (some (pth 40)), none⟩,
⟨(.call 27 [(.tmp (pth 40))]), opAt P 28 7 2, (some (pth 41)), none⟩,
⟨(.call 47 [(.tmp (pth 41))]), opAt P 28 7 3, (some (pth 42)), none⟩,
⟨(.mv (.tmp (pth 42))), opAt P 28 7 4, (some (pth 38)), none⟩,
⟨(.ext (.tmp (pth 38)) 0), opAt P 28 7 5, (some (pth 43)), none⟩,
⟨(.ext (.tmp (pth 38)) 1), opAt P 28 7 6, (some (pth 44)), none⟩,
⟨(.nc (.tmp (pth 39))), opAt P 28 7 7, (some (pth 45)), none⟩,
⟨(.fa (.tmp (pth 45)) 10), opAt P 28 7 8, (some (pth 46)), none⟩,
⟨(.st 25 (.tmp (pth 46)) (.tmp (pth 43))), opAt P 28 7 9, none, none⟩,
⟨(.mv (.tmp (pth 44))), opAt P 28 7 10, (some (pth 4)), none⟩])
(.seq (.seqr [⟨(.bin .eql (.tmp (pth 8)) (.val (.int .i64 (6)))), opAt P 28 8 0, (some (pth 48)), none⟩,
⟨(.mv (.tmp (pth 48))), opAt P 28 8 1, (some (pth 47)), none⟩])
(.cond (.tmp (pth 47)) (.seq (.reg [⟨(.mv (.tmp (pth 1))), opAt P 28 9 0, (some (pth 49)), none⟩,
⟨(.mv (.tmp (pth 0))), opAt P 28 9 1, (some (pth 50)), none⟩,
⟨(.nc (.tmp (pth 50))), opAt P 28 9 2, (some (pth 51)), none⟩,
⟨(.fa (.tmp (pth 51)) 10), opAt P 28 9 3, (some (pth 52)), none⟩,
⟨(.fa (.tmp (pth 52)) 0), opAt P 28 9 4, (some (pth 53)), none⟩,
⟨(.mv (.tmp (pth 0))), opAt P 28 9 5, (some (pth 54)), none⟩,
⟨(.nc (.tmp (pth 54))), opAt P 28 9 6, (some (pth 55)), none⟩,
⟨(.fa (.tmp (pth 55)) 10), opAt P 28 9 7, (some (pth 56)), none⟩,
⟨(.fa (.tmp (pth 56)) 1), opAt P 28 9 8, (some (pth 57)), none⟩,
⟨(.mv (.tmp (pth 0))), opAt P 28 9 9, (some (pth 58)), none⟩,
⟨(.nc (.tmp (pth 58))), opAt P 28 9 10, (some (pth 59)), none⟩,
⟨(.fa (.tmp (pth 59)) 10), opAt P 28 9 11, (some (pth 60)), none⟩,
⟨(.fa (.tmp (pth 60)) 2), opAt P 28 9 12, (some (pth 61)), none⟩,
⟨.slow, opAt P 28 9 13, (some (pth 62)), none⟩,
⟨(.call 26 [(.tmp (pth 49)), (.tmp (pth 62))]), opAt P 28 9 14, (some (pth 63)), none⟩] [])
(.seqr [⟨(.mv (.tmp (pth 0))), opAt P 28 10 0, (some (pth 65)), none⟩,
⟨(.mv (.tmp (pth 1))), opAt P 28 10 1, (some (pth 66)), none⟩,
⟨(.call 27 [(.tmp (pth 66))]), opAt P 28 10 2, (some (pth 67)), none⟩,
⟨(.call 48 [(.tmp (pth 67))]), opAt P 28 10 3, (some (pth 68)), none⟩,
⟨(.mv (.tmp (pth 68))), opAt P 28 10 4, (some (pth 64)), none⟩,
⟨(.ext (.tmp (pth 64)) 0), opAt P 28 10 5, (some (pth 69)), none⟩,
⟨(.ext (.tmp (pth 64)) 1), opAt P 28 10 6, (some (pth 70)), none⟩,
⟨(.nc (.tmp (pth 65))), opAt P 28 10 7, (some (pth 71)), none⟩,
⟨(.fa (.tmp (pth 71)) 22), opAt P 28 10 8, (some (pth 72)), none⟩,
⟨(.st 55 (.tmp (pth 72)) (.tmp (pth 69))), opAt P 28 10 9, none, none⟩,
⟨(.mv (.tmp (pth 70))), opAt P 28 10 10, (some (pth 4)), none⟩]))
(.seqr [⟨(.mv (.tmp (pth 0))), opAt P 28 11 0, (some (pth 9)), none⟩,
⟨(.mv (.tmp (pth 1))), opAt P 28 11 1, (some (pth 10)), none⟩,
⟨(.call 27 [(.tmp (pth 10))]), opAt P 28 11 2, (some (pth 11)), none⟩,
⟨(.nc (.tmp (pth 9))), opAt P 28 11 3, (some (pth 12)), none⟩,
⟨(.fa (.tmp (pth 12)) 36), opAt P 28 11 4, (some (pth 13)), none⟩,
⟨(.st 26 (.tmp (pth 13)) (.tmp (pth 11))), opAt P 28 11 5, none, none⟩])))))))))))
(.seq (.seqr [⟨(.mv (.tmp (pth 4))), opAt P 28 12 0, (some (pth 73)), none⟩,
⟨(.bin .neq (.tmp (pth 73)) (.val (.int .i64 (0)))), opAt P 28 12 1, (some (pth 74)), none⟩])
(.cond (.tmp (pth 74)) (.seqr [⟨(.mv (.tmp (pth 1))), opAt P 28 13 0, (some (pth 75)), none⟩,
⟨(.call 49 [(.tmp (pth 75))]), opAt P 28 13 1, (some (pth 76)), none⟩])
.skip)))), []⟩
theorem cf28_ok : cFn Tryd.prog 28 = some (cf28 Tryd.prog) := by kernel_rfl
def cf29 (P : Program) : FF := ⟨13, (.seq (.seqr [⟨(.mv (.val (.bool false))), opAt P 29 0 0, (some (pth 2)), none⟩])
(.seq (.seqr [⟨(.mv (.tmp (pth 0))), opAt P 29 1 0, (some (pth 3)), none⟩,
⟨(.call 50 [(.tmp (pth 3))]), opAt P 29 1 1, (some (pth 4)), none⟩,
⟨(.mv (.tmp (pth 4))), opAt P 29 1 2, (some (pth 5)), none⟩,
⟨(.mv (.tmp (pth 0))), opAt P 29 1 3, (some (pth 6)), (some ((pth 5), true))⟩,
⟨(.nc (.tmp (pth 6))), opAt P 29 1 4, (some (pth 7)), (some ((pth 5), true))⟩,
⟨(.fa (.tmp (pth 7)) 0), opAt P 29 1 5, (some (pth 8)), (some ((pth 5), true))⟩,
⟨(.ld 26 (.tmp (pth 8))), opAt P 29 1 6, (some (pth 9)), (some ((pth 5), true))⟩,
⟨.slow, opAt P 29 1 7, (some (pth 10)), (some ((pth 5), true))⟩,
⟨(.bin .eql (.tmp (pth 10)) (.val (.int .i64 (0)))), opAt P 29 1 8, (some (pth 11)), (some ((pth 5), true))⟩,
⟨(.pick (.tmp (pth 5)) (.tmp (pth 11)) (.val (.bool false))), opAt P 29 1 9, (some (pth 12)), none⟩,
⟨(.mv (.tmp (pth 12))), opAt P 29 1 10, (some (pth 2)), none⟩])
.ret)), [.tmp (pth 2)]⟩
theorem cf29_ok : cFn Tryd.prog 29 = some (cf29 Tryd.prog) := by kernel_rfl
def cf30 (P : Program) : FF := ⟨89, (.seq (.seqr [⟨.slow, opAt P 30 0 0, (some (pth 1)), none⟩,
⟨(.mv (.val (.bool false))), opAt P 30 0 1, (some (pth 2)), none⟩])
(.seq (.seqr [⟨(.fa (.tmp (pth 1)) 0), opAt P 30 1 0, (some (pth 7)), none⟩,
⟨(.ld 3 (.tmp (pth 7))), opAt P 30 1 1, (some (pth 8)), none⟩,
⟨.slow, opAt P 30 1 2, (some (pth 9)), none⟩,
⟨.slow, opAt P 30 1 3, (some (pth 3)), none⟩,
⟨(.st 62 (.tmp (pth 3)) (.tmp (pth 9))), opAt P 30 1 4, none, none⟩])
(.seq (.seqr [⟨(.mv (.val (.bool false))), opAt P 30 2 0, (some (pth 4)), none⟩])
(.seq (.seq (.seqr [⟨(.fa (.tmp (pth 1)) 0), opAt P 30 3 0, (some (pth 10)), none⟩,
⟨(.ld 3 (.tmp (pth 10))), opAt P 30 3 1, (some (pth 11)), none⟩])
(.block 0 (.seq (.seqr [⟨(.bin .eql (.tmp (pth 11)) (.val (.int .i64 (1)))), opAt P 30 4 0, (some (pth 13)), none⟩,
⟨(.mv (.tmp (pth 13))), opAt P 30 4 1, (some (pth 12)), none⟩])
(.cond (.tmp (pth 12)) (.seq (.seqr [⟨(.fa (.tmp (pth 1)) 36), opAt P 30 5 0, (some (pth 14)), none⟩,
⟨(.ld 26 (.tmp (pth 14))), opAt P 30 5 1, (some (pth 15)), none⟩,
⟨(.fa (.tmp (pth 3)) 36), opAt P 30 5 2, (some (pth 16)), none⟩,
⟨(.st 26 (.tmp (pth 16)) (.tmp (pth 15))), opAt P 30 5 3, none, none⟩])
(.seqr [⟨(.fa (.tmp (pth 1)) 36), opAt P 30 6 0, (some (pth 17)), none⟩,
⟨(.ld 26 (.tmp (pth 17))), opAt P 30 6 1, (some (pth 18)), none⟩,
⟨(.call 51 [(.tmp (pth 18)), (.val (.int .i64 (131072)))]), opAt P 30 6 2, (some (pth 19)), none⟩,
⟨(.mv (.tmp (pth 19))), opAt P 30 6 3, (some (pth 4)), none⟩]))
(.seq (.seqr [⟨(.bin .eql (.tmp (pth 11)) (.val (.int .i64 (2)))), opAt P 30 7 0, (some (pth 21)), none⟩,
⟨(.mv (.tmp (pth 21))), opAt P 30 7 1, (some (pth 20)), none⟩])
(.cond (.tmp (pth 20)) (.seq (.seqr [⟨(.fa (.tmp (pth 1)) 3), opAt P 30 8 0, (some (pth 22)), none⟩,
⟨(.ld 3 (.tmp (pth 22))), opAt P 30 8 1, (some (pth 23)), none⟩,
⟨(.fa (.tmp (pth 3)) 3), opAt P 30 8 2, (some (pth 24)), none⟩,
⟨(.st 3 (.tmp (pth 24)) (.tmp (pth 23))), opAt P 30 8 3, none, none⟩])
(.seqr [⟨(.fa (.tmp (pth 1)) 3), opAt P 30 9 0, (some (pth 25)), none⟩,
⟨(.ld 3 (.tmp (pth 25))), opAt P 30 9 1, (some (pth 26)), none⟩,
⟨(.call 52 [(.tmp (pth 26))]), opAt P 30 9 2, (some (pth 27)), none⟩,
⟨(.mv (.tmp (pth 27))), opAt P 30 9 3, (some (pth 4)), none⟩]))
(.seq (.seqr [⟨(.bin .eql (.tmp (pth 11)) (.val (.int .i64 (3)))), opAt P 30 10 0, (some (pth 29)), none⟩,
⟨(.mv (.tmp (pth 29))), opAt P 30 10 1, (some (pth 28)), none⟩])
(.cond (.tmp (pth 28)) (.seq (.seqr [⟨(.fa (.tmp (pth 1)) 28), opAt P 30 11 0, (some (pth 30)), none⟩,
⟨(.ld 58 (.tmp (pth 30))), opAt P 30 11 1, (some (pth 31)), none⟩,
⟨(.fa (.tmp (pth 3)) 28), opAt P 30 11 2, (some (pth 32)), none⟩,
⟨(.st 58 (.tmp (pth 32)) (.tmp (pth 31))), opAt P 30 11 3, none, none⟩])
(.seqr [⟨(.fa (.tmp (pth 1)) 28), opAt P 30 12 0, (some (pth 33)), none⟩,
⟨(.ld 58 (.tmp (pth 33))), opAt P 30 12 1, (some (pth 34)), none⟩,
⟨(.call 53 [(.tmp (pth 34))]), opAt P 30 12 2, (some (pth 35)), none⟩,
⟨(.mv (.tmp (pth 35))), opAt P 30 12 3, (some (pth 4)), none⟩]))
(.seq (.seqr [⟨(.bin .eql (.tmp (pth 11)) (.val (.int .i64 (4)))), opAt P 30 13 0, (some (pth 37)), none⟩,
⟨(.mv (.tmp (pth 37))), opAt P 30 13 1, (some (pth 36)), none⟩])
(.cond (.tmp (pth 36)) (.seq (.seqr [⟨(.fa (.tmp (pth 1)) 31), opAt P 30 14 0, (some (pth 38)), none⟩,
⟨(.ld 60 (.tmp (pth 38))), opAt P 30 14 1, (some (pth 39)), none⟩,
⟨(.fa (.tmp (pth 3)) 31), opAt P 30 14 2, (some (pth 40)), none⟩,
⟨(.st 60 (.tmp (pth 40)) (.tmp (pth 39))), opAt P 30 14 3, none, none⟩])
(.seq (.seqr [⟨(.fa (.tmp (pth 1)) 31), opAt P 30 15 0, (some (pth 42)), none⟩,
⟨(.ld 60 (.tmp (pth 42))), opAt P 30 15 1, (some (pth 43)), none⟩,
⟨(.call 54 [(.tmp (pth 43))]), opAt P 30 15 2, (some (pth 44)), none⟩,
⟨(.mv (.tmp (pth 44))), opAt P 30 15 3, (some (pth 41)), none⟩,
⟨(.ext (.tmp (pth 41)) 0), opAt P 30 15 4, (some (pth 45)), none⟩,
⟨(.ext (.tmp (pth 41)) 1), opAt P 30 15 5, (some (pth 46)), none⟩,
⟨(.mv (.tmp (pth 45))), opAt P 30 15 6, (some (pth 5)), none⟩,
⟨(.mv (.tmp (pth 46))), opAt P 30 15 7, (some (pth 6)), none⟩])
(.seqr [⟨(.mv (.tmp (pth 6))), opAt P 30 16 0, (some (pth 47)), none⟩,
⟨(.bin .eql (.tmp (pth 47)) (.val (.int .i64 (0)))), opAt P 30 16 1, (some (pth 48)), none⟩,
⟨(.mv (.tmp (pth 48))), opAt P 30 16 2, (some (pth 4)), none⟩])))
(.seq (.seqr [⟨(.bin .eql (.tmp (pth 11)) (.val (.int .i64 (5)))), opAt P 30 17 0, (some (pth 50)), none⟩,
⟨(.mv (.tmp (pth 50))), opAt P 30 17 1, (some (pth 49)), none⟩])
(.cond (.tmp (pth 49)) (.seq (.seqr [⟨(.fa (.tmp (pth 1)) 10), opAt P 30 18 0, (some (pth 51)), none⟩,
⟨(.ld 25 (.tmp (pth 51))), opAt P 30 18 1, (some (pth 52)), none⟩,
⟨(.fa (.tmp (pth 3)) 10), opAt P 30 18 2, (some (pth 53)), none⟩,
⟨(.st 25 (.tmp (pth 53)) (.tmp (pth 52))), opAt P 30 18 3, none, none⟩])
(.seqr [⟨(.fa (.tmp (pth 1)) 10), opAt P 30 19 0, (some (pth 54)), none⟩,
⟨(.ld 25 (.tmp (pth 54))), opAt P 30 19 1, (some (pth 55)), none⟩,
⟨(.call 11 [(.tmp (pth 55))]), opAt P 30 19 2, (some (pth 56)), none⟩,
⟨(.mv (.tmp (pth 56))), opAt P 30 19 3, (some (pth 4)), none⟩]))
(.seq (.seqr [⟨(.bin .eql (.tmp (pth 11)) (.val (.int .i64 (6)))), opAt P 30 20 0, (some (pth 58)), none⟩,
⟨(.mv (.tmp (pth 58))), opAt P 30 20 1, (some (pth 57)), none⟩])
(.cond (.tmp (pth 57)) (.seq (.reg [⟨(.fa (.tmp (pth 1)) 10), opAt P 30 21 0, (some (pth 59)), none⟩,
⟨(.ld 25 (.tmp (pth 59))), opAt P 30 21 1, (some (pth 60)), none⟩,
⟨(.fa (.tmp (pth 1)) 7), opAt P 30 21 2, (some (pth 61)), none⟩,
⟨(.ld 32 (.tmp (pth 61))), opAt P 30 21 3, (some (pth 62)), none⟩,
⟨(.fa (.tmp (pth 1)) 22), opAt P 30 21 4, (some (pth 63)), none⟩,
⟨(.ld 55 (.tmp (pth 63))), opAt P 30 21 5, (some (pth 64)), none⟩,
⟨(.fa (.tmp (pth 1)) 6), opAt P 30 21 6, (some (pth 65)), none⟩,
⟨(.ld 3 (.tmp (pth 65))), opAt P 30 21 7, (some (pth 66)), none⟩,
⟨(.fa (.tmp (pth 3)) 10), opAt P 30 21 8, (some (pth 67)), none⟩,
⟨(.st 25 (.tmp (pth 67)) (.tmp (pth 60))), opAt P 30 21 9, none, none⟩,
⟨(.fa (.tmp (pth 3)) 7), opAt P 30 21 10, (some (pth 68)), none⟩,
⟨(.st 32 (.tmp (pth 68)) (.tmp (pth 62))), opAt P 30 21 11, none, none⟩,
⟨(.fa (.tmp (pth 3)) 22), opAt P 30 21 12, (some (pth 69)), none⟩,
⟨(.st 55 (.tmp (pth 69)) (.tmp (pth 64))), opAt P 30 21 13, none, none⟩,
⟨(.fa (.tmp (pth 3)) 6), opAt P 30 21 14, (some (pth 70)), none⟩,
⟨(.st 3 (.tmp (pth 70)) (.tmp (pth 66))), opAt P 30 21 15, none, none⟩] [(1, 3), (1, 5), (3, 5), (1, 7), (3, 7), (5, 7), (3, 9), (5, 9), (7, 9), (5, 11), (7, 11), (7, 13)])
(.seqr [⟨(.ld 62 (.tmp (pth 1))), opAt P 30 22 0, (some (pth 71)), none⟩,
⟨(.call 55 [(.tmp (pth 71))]), opAt P 30 22 1, (some (pth 72)), none⟩,
⟨(.mv (.tmp (pth 72))), opAt P 30 22 2, (some (pth 4)), none⟩]))
(.seq (.seq (.seqr [⟨(.bin .eql (.tmp (pth 11)) (.val (.int .i64 (7)))), opAt P 30 23 0, (some (pth 74)), none⟩,
⟨(.mv (.tmp (pth 74))), opAt P 30 23 1, (some (pth 73)), none⟩])
(.cond (.tmp (pth 73)) .skip
(.seq (.seqr [⟨(.bin .eql (.tmp (pth 11)) (.val (.int .i64 (8)))), opAt P 30 24 0, (some (pth 75)), none⟩,
⟨(.mv (.tmp (pth 75))), opAt P 30 24 1, (some (pth 73)), none⟩])
(.cond (.tmp (pth 73)) .skip
(.seq (.seqr [⟨(.bin .eql (.tmp (pth 11)) (.val (.int .i64 (9)))), opAt P 30 25 0, (some (pth 76)), none⟩,
⟨(.mv (.tmp (pth 76))), opAt P 30 25 1, (some (pth 73)), none⟩])
(.cond (.tmp (pth 73)) .skip
(.seqr [⟨(.bin .eql (.tmp (pth 11)) (.val (.int .i64 (10)))), opAt P 30 26 0, (some (pth 77)), none⟩,
⟨(.mv (.tmp (pth 77))), opAt P 30 26 1, (some (pth 73)), none⟩])))))))
(.cond (.tmp (pth 73)) (.seqr [⟨(.ld 62 (.tmp (pth 1))), opAt P 30 27 0, (some (pth 79)), none⟩,
⟨(.call 56 [(.tmp (pth 79))]), opAt P 30 27 1, (some (pth 80)), none⟩,
⟨(.mv (.tmp (pth 80))), opAt P 30 27 2, (some (pth 78)), none⟩,
⟨(.ext (.tmp (pth 78)) 0), opAt P 30 27 3, (some (pth 81)), none⟩,
⟨(.ext (.tmp (pth 78)) 1), opAt P 30 27 4, (some (pth 82)), none⟩,
⟨(.st 62 (.tmp (pth 3)) (.tmp (pth 81))), opAt P 30 27 5, none, none⟩,
⟨(.mv (.tmp (pth 82))), opAt P 30 27 6, (some (pth 4)), none⟩])
.skip))))))))))))))))
(.seq (.seqr [⟨(.mv (.tmp (pth 4))), opAt P 30 28 0, (some (pth 83)), none⟩,
⟨(.mv (.tmp (pth 83))), opAt P 30 28 1, (some (pth 84)), none⟩,
⟨(.ld 62 (.tmp (pth 3))), opAt P 30 28 2, (some (pth 85)), (some ((pth 84), true))⟩,
⟨(.ld 62 (.tmp (pth 1))), opAt P 30 28 3, (some (pth 86)), (some ((pth 84), true))⟩,
⟨(.call 57 [(.tmp (pth 85)), (.tmp (pth 86))]), opAt P 30 28 4, (some (pth 87)), (some ((pth 84), true))⟩,
⟨(.pick (.tmp (pth 84)) (.tmp (pth 87)) (.val (.bool false))), opAt P 30 28 5, (some (pth 88)), none⟩,
⟨(.mv (.tmp (pth 88))), opAt P 30 28 6, (some (pth 2)), none⟩])
.ret))))), [.tmp (pth 2)]⟩
theorem cf30_ok : cFn Tryd.prog 30 = some (cf30 Tryd.prog) := by kernel_rfl
def cf31 (P : Program) : FF := ⟨26, (.seq (.seqr [⟨.slow, opAt P 31 0 0, (some (pth 1)), none⟩,
⟨.slow, opAt P 31 0 1, (some (pth 2)), none⟩,
⟨(.mv (.val (.bool false))), opAt P 31 0 2, (some (pth 3)), none⟩])
(.seq (.seqr [⟨(.ld 77 (.tmp (pth 1))), opAt P 31 1 0, (some (pth 7)), none⟩,
⟨(.call 35 [(.tmp (pth 7))]), opAt P 31 1 1, (some (pth 8)), none⟩,
⟨(.mv (.tmp (pth 8))), opAt P 31 1 2, (some (pth 6)), none⟩,
⟨(.ext (.tmp (pth 6)) 0), opAt P 31 1 3, (some (pth 9)), none⟩,
⟨(.ext (.tmp (pth 6)) 1), opAt P 31 1 4, (some (pth 10)), none⟩,
⟨.slow, opAt P 31 1 5, (some (pth 4)), none⟩,
⟨(.st 77 (.tmp (pth 4)) (.tmp (pth 9))), opAt P 31 1 6, none, none⟩,
⟨(.mv (.tmp (pth 10))), opAt P 31 1 7, (some (pth 5)), none⟩])
(.seq (.reg [⟨(.fa (.tmp (pth 1)) 7), opAt P 31 2 0, (some (pth 11)), none⟩,
⟨(.ld 3 (.tmp (pth 11))), opAt P 31 2 1, (some (pth 12)), none⟩,
⟨(.fa (.tmp (pth 1)) 8), opAt P 31 2 2, (some (pth 13)), none⟩,
⟨(.ld 3 (.tmp (pth 13))), opAt P 31 2 3, (some (pth 14)), none⟩,
⟨(.fa (.tmp (pth 4)) 7), opAt P 31 2 4, (some (pth 15)), none⟩,
⟨(.st 3 (.tmp (pth 15)) (.tmp (pth 12))), opAt P 31 2 5, none, none⟩,
⟨(.fa (.tmp (pth 4)) 8), opAt P 31 2 6, (some (pth 16)), none⟩,
⟨(.st 3 (.tmp (pth 16)) (.tmp (pth 14))), opAt P 31 2 7, none, none⟩] [(1, 3), (3, 5)])
(.seq (.reg [⟨(.ld 77 (.tmp (pth 4))), opAt P 31 3 0, (some (pth 17)), none⟩,
⟨(.fa (.tmp (pth 1)) 7), opAt P 31 3 1, (some (pth 18)), none⟩,
⟨(.ld 3 (.tmp (pth 18))), opAt P 31 3 2, (some (pth 19)), none⟩,
⟨(.call 21 [(.tmp (pth 19)), (.val (.int .i64 (0))), (.val (.int .i64 (3)))]), opAt P 31 3 3, (some (pth 20)), none⟩,
⟨(.mv (.tmp (pth 20))), opAt P 31 3 4, (some (pth 21)), none⟩,
⟨(.fa (.tmp (pth 1)) 8), opAt P 31 3 5, (some (pth 22)), (some ((pth 21), true))⟩,
⟨(.ld 3 (.tmp (pth 22))), opAt P 31 3 6, (some (pth 23)), (some ((pth 21), true))⟩,
⟨(.call 21 [(.tmp (pth 23)), (.val (.int .i64 (1))), (.val (.int .i64 (1048576)))]), opAt P 31 3 7, (some (pth 24)), (some ((pth 21), true))⟩,
⟨(.pick (.tmp (pth 21)) (.tmp (pth 24)) (.val (.bool false))), opAt P 31 3 8, (some (pth 25)), none⟩,
⟨(.st 77 (.tmp (pth 2)) (.tmp (pth 17))), opAt P 31 3 9, none, none⟩,
⟨(.mv (.tmp (pth 25))), opAt P 31 3 10, (some (pth 3)), none⟩] [(0, 2), (0, 3), (0, 6), (0, 7)])
.ret)))), [.cell (pth 2) 77, .tmp (pth 3)]⟩
theorem cf31_ok : cFn Tryd.prog 31 = some (cf31 Tryd.prog) := by kernel_rfl
def cf32 (P : Program) : FF := ⟨21, (.seq (.seqr [⟨.slow, opAt P 32 0 0, (some (pth 1)), none⟩,
⟨.slow, opAt P 32 0 1, (some (pth 2)), none⟩,
⟨(.mv (.val (.bool false))), opAt P 32 0 2, (some (pth 3)), none⟩])
(.seq (.seqr [⟨(.ld 77 (.tmp (pth 1))), opAt P 32 1 0, (some (pth 7)), none⟩,
⟨(.call 31 [(.tmp (pth 7))]), opAt P 32 1 1, (some (pth 8)), none⟩,
⟨(.mv (.tmp (pth 8))), opAt P 32 1 2, (some (pth 6)), none⟩,
⟨(.ext (.tmp (pth 6)) 0), opAt P 32 1 3, (some (pth 9)), none⟩,
⟨(.ext (.tmp (pth 6)) 1), opAt P 32 1 4, (some (pth 10)), none⟩,
⟨.slow, opAt P 32 1 5, (some (pth 4)), none⟩,
⟨(.st 77 (.tmp (pth 4)) (.tmp (pth 9))), opAt P 32 1 6, none, none⟩,
⟨(.mv (.tmp (pth 10))), opAt P 32 1 7, (some (pth 5)), none⟩])
(.seq (.seqr [⟨(.fa (.tmp (pth 1)) 5), opAt P 32 2 0, (some (pth 11)), none⟩,
⟨(.ld 23 (.tmp (pth 11))), opAt P 32 2 1, (some (pth 12)), none⟩,
⟨(.fa (.tmp (pth 4)) 5), opAt P 32 2 2, (some (pth 13)), none⟩,
⟨(.st 23 (.tmp (pth 13)) (.tmp (pth 12))), opAt P 32 2 3, none, none⟩])
(.seq (.reg [⟨(.ld 77 (.tmp (pth 4))), opAt P 32 3 0, (some (pth 14)), none⟩,
⟨(.mv (.tmp (pth 5))), opAt P 32 3 1, (some (pth 15)), none⟩,
⟨(.mv (.tmp (pth 15))), opAt P 32 3 2, (some (pth 16)), none⟩,
⟨(.fa (.tmp (pth 1)) 5), opAt P 32 3 3, (some (pth 17)), (some ((pth 16), true))⟩,
⟨(.ld 23 (.tmp (pth 17))), opAt P 32 3 4, (some (pth 18)), (some ((pth 16), true))⟩,
⟨(.call 22 [(.tmp (pth 18))]), opAt P 32 3 5, (some (pth 19)), (some ((pth 16), true))⟩,
⟨(.pick (.tmp (pth 16)) (.tmp (pth 19)) (.val (.bool false))), opAt P 32 3 6, (some (pth 20)), none⟩,
⟨(.st 77 (.tmp (pth 2)) (.tmp (pth 14))), opAt P 32 3 7, none, none⟩,
⟨(.mv (.tmp (pth 20))), opAt P 32 3 8, (some (pth 3)), none⟩] [(0, 4), (0, 5)])
.ret)))), [.cell (pth 2) 77, .tmp (pth 3)]⟩
theorem cf32_ok : cFn Tryd.prog 32 = some (cf32 Tryd.prog) := by kernel_rfl
def cf33 (P : Program) : FF := ⟨29, (.seq (.seqr [⟨.slow, opAt P 33 0 0, (some (pth 1)), none⟩,
⟨.slow, opAt P 33 0 1, (some (pth 2)), none⟩,
⟨(.mv (.val (.bool false))), opAt P 33 0 2, (some (pth 3)), none⟩])
(.seq (.seqr [⟨(.ld 77 (.tmp (pth 1))), opAt P 33 1 0, (some (pth 7)), none⟩,
⟨(.call 31 [(.tmp (pth 7))]), opAt P 33 1 1, (some (pth 8)), none⟩,
⟨(.mv (.tmp (pth 8))), opAt P 33 1 2, (some (pth 6)), none⟩,
⟨(.ext (.tmp (pth 6)) 0), opAt P 33 1 3, (some (pth 9)), none⟩,
⟨(.ext (.tmp (pth 6)) 1), opAt P 33 1 4, (some (pth 10)), none⟩,
⟨.slow, opAt P 33 1 5, (some (pth 4)), none⟩,
⟨(.st 77 (.tmp (pth 4)) (.tmp (pth 9))), opAt P 33 1 6, none, none⟩,
⟨(.mv (.tmp (pth 10))), opAt P 33 1 7, (some (pth 5)), none⟩])
(.seq (.reg [⟨(.fa (.tmp (pth 1)) 9), opAt P 33 2 0, (some (pth 11)), none⟩,
⟨(.ld 3 (.tmp (pth 11))), opAt P 33 2 1, (some (pth 12)), none⟩,
⟨(.fa (.tmp (pth 1)) 10), opAt P 33 2 2, (some (pth 13)), none⟩,
⟨(.ld 4 (.tmp (pth 13))), opAt P 33 2 3, (some (pth 14)), none⟩,
⟨(.fa (.tmp (pth 4)) 9), opAt P 33 2 4, (some (pth 15)), none⟩,
⟨(.st 3 (.tmp (pth 15)) (.tmp (pth 12))), opAt P 33 2 5, none, none⟩,
⟨(.fa (.tmp (pth 4)) 10), opAt P 33 2 6, (some (pth 16)), none⟩,
⟨(.st 4 (.tmp (pth 16)) (.tmp (pth 14))), opAt P 33 2 7, none, none⟩] [(1, 3), (3, 5)])
(.seq (.reg [⟨(.ld 77 (.tmp (pth 4))), opAt P 33 3 0, (some (pth 17)), none⟩,
⟨(.mv (.tmp (pth 5))), opAt P 33 3 1, (some (pth 18)), none⟩,
⟨(.mv (.tmp (pth 18))), opAt P 33 3 2, (some (pth 19)), none⟩,
⟨(.fa (.tmp (pth 1)) 7), opAt P 33 3 3, (some (pth 20)), (some ((pth 19), true))⟩,
⟨(.ld 3 (.tmp (pth 20))), opAt P 33 3 4, (some (pth 21)), (some ((pth 19), true))⟩,
⟨(.bin .neq (.tmp (pth 21)) (.val (.int .i64 (0)))), opAt P 33 3 5, (some (pth 22)), (some ((pth 19), true))⟩,
⟨(.pick (.tmp (pth 19)) (.tmp (pth 22)) (.val (.bool false))), opAt P 33 3 6, (some (pth 23)), none⟩,
⟨(.mv (.tmp (pth 23))), opAt P 33 3 7, (some (pth 24)), none⟩,
⟨(.fa (.tmp (pth 1)) 9), opAt P 33 3 8, (some (pth 25)), (some ((pth 24), true))⟩,
⟨(.ld 3 (.tmp (pth 25))), opAt P 33 3 9, (some (pth 26)), (some ((pth 24), true))⟩,
⟨(.call 21 [(.tmp (pth 26)), (.val (.int .i64 (1))), (.val (.int .i64 (1024)))]), opAt P 33 3 10, (some (pth 27)), (some ((pth 24), true))⟩,
⟨(.pick (.tmp (pth 24)) (.tmp (pth 27)) (.val (.bool false))), opAt P 33 3 11, (some (pth 28)), none⟩,
⟨(.st 77 (.tmp (pth 2)) (.tmp (pth 17))), opAt P 33 3 12, none, none⟩,
⟨(.mv (.tmp (pth 28))), opAt P 33 3 13, (some (pth 3)), none⟩] [(0, 4), (0, 5), (0, 9), (0, 10)])
.ret)))), [.cell (pth 2) 77, .tmp (pth 3)]⟩
theorem cf33_ok : cFn Tryd.prog 33 = some (cf33 Tryd.prog) := by kernel_rfl
def cf34 (P : Program) : FF := ⟨18, (.seq (.seqr [⟨.slow, opAt P 34 0 0, (some (pth 1)), none⟩,
⟨.slow, opAt P 34 0 1, (some (pth 2)), none⟩,
⟨(.mv (.val (.bool false))), opAt P 34 0 2, (some (pth 3)), none⟩])
(.seq (.seqr [⟨(.ld 77 (.tmp (pth 1))), opAt P 34 1 0, (some (pth 7)), none⟩,
⟨(.call 35 [(.tmp (pth 7))]), opAt P 34 1 1, (some (pth 8)), none⟩,
⟨(.mv (.tmp (pth 8))), opAt P 34 1 2, (some (pth 6)), none⟩,
⟨(.ext (.tmp (pth 6)) 0), opAt P 34 1 3, (some (pth 9)), none⟩,
⟨(.ext (.tmp (pth 6)) 1), opAt P 34 1 4, (some (pth 10)), none⟩,
⟨.slow, opAt P 34 1 5, (some (pth 4)), none⟩,
⟨(.st 77 (.tmp (pth 4)) (.tmp (pth 9))), opAt P 34 1 6, none, none⟩,
⟨(.mv (.tmp (pth 10))), opAt P 34 1 7, (some (pth 5)), none⟩])
(.seq (.seqr [⟨(.fa (.tmp (pth 1)) 11), opAt P 34 2 0, (some (pth 11)), none⟩,
⟨(.ld 3 (.tmp (pth 11))), opAt P 34 2 1, (some (pth 12)), none⟩,
⟨(.fa (.tmp (pth 4)) 11), opAt P 34 2 2, (some (pth 13)), none⟩,
⟨(.st 3 (.tmp (pth 13)) (.tmp (pth 12))), opAt P 34 2 3, none, none⟩])
(.seq (.reg [⟨(.ld 77 (.tmp (pth 4))), opAt P 34 3 0, (some (pth 14)), none⟩,
⟨(.fa (.tmp (pth 1)) 11), opAt P 34 3 1, (some (pth 15)), none⟩,
⟨(.ld 3 (.tmp (pth 15))), opAt P 34 3 2, (some (pth 16)), none⟩,
⟨(.call 21 [(.tmp (pth 16)), (.val (.int .i64 (1))), (.val (.int .i64 (1099511627776)))]), opAt P 34 3 3, (some (pth 17)), none⟩,
⟨(.st 77 (.tmp (pth 2)) (.tmp (pth 14))), opAt P 34 3 4, none, none⟩,
⟨(.mv (.tmp (pth 17))), opAt P 34 3 5, (some (pth 3)), none⟩] [(0, 2), (0, 3)])
.ret)))), [.cell (pth 2) 77, .tmp (pth 3)]⟩
theorem cf34_ok : cFn Tryd.prog 34 = some (cf34 Tryd.prog) := by kernel_rfl
def cf35 (P : Program) : FF := ⟨13, (.seq (.seqr [⟨.slow, opAt P 35 0 0, (some (pth 1)), none⟩,
⟨.slow, opAt P 35 0 1, (some (pth 2)), none⟩,
⟨(.mv (.val (.bool false))), opAt P 35 0 2, (some (pth 3)), none⟩])
(.seq (.seqr [⟨(.fa (.tmp (pth 1)) 0), opAt P 35 1 0, (some (pth 4)), none⟩,
⟨(.ld 3 (.tmp (pth 4))), opAt P 35 1 1, (some (pth 5)), none⟩,
⟨(.fa (.tmp (pth 1)) 1), opAt P 35 1 2, (some (pth 6)), none⟩,
⟨(.ld 3 (.tmp (pth 6))), opAt P 35 1 3, (some (pth 7)), none⟩,
⟨(.fa (.tmp (pth 1)) 2), opAt P 35 1 4, (some (pth 8)), none⟩,
⟨(.ld 3 (.tmp (pth 8))), opAt P 35 1 5, (some (pth 9)), none⟩,
⟨(.fa (.tmp (pth 1)) 3), opAt P 35 1 6, (some (pth 10)), none⟩,
⟨(.ld 23 (.tmp (pth 10))), opAt P 35 1 7, (some (pth 11)), none⟩,
⟨.slow, opAt P 35 1 8, (some (pth 12)), none⟩,
⟨(.st 77 (.tmp (pth 2)) (.tmp (pth 12))), opAt P 35 1 9, none, none⟩,
⟨(.mv (.val (.bool true))), opAt P 35 1 10, (some (pth 3)), none⟩])
.ret)), [.cell (pth 2) 77, .tmp (pth 3)]⟩
theorem cf35_ok : cFn Tryd.prog 35 = some (cf35 Tryd.prog) := by kernel_rfl
def cf36 (P : Program) : FF := ⟨24, (.seq (.seq (.seqr [⟨(.mv (.tmp (pth 0))), opAt P 36 0 0, (some (pth 6)), none⟩,
⟨(.bin .eql (.tmp (pth 6)) (.val (.pointer none))), opAt P 36 0 1, (some (pth 7)), none⟩])
(.cond (.tmp (pth 7)) .ret
.skip))
(.seq (.seqr [⟨(.mv (.tmp (pth 1))), opAt P 36 1 0, (some (pth 8)), none⟩,
⟨.slow, opAt P 36 1 1, (some (pth 9)), none⟩,
⟨(.mv (.val (.int .i64 (0)))), opAt P 36 1 2, (some (pth 10)), none⟩])
(.block 0 (.loop (.seq (.seqr [⟨(.bin .lss (.tmp (pth 10)) (.tmp (pth 9))), opAt P 36 2 0, (some (pth 11)), none⟩])
(.seq (.cond (.tmp (pth 11)) .skip
(.exit 0))
(.seq (.block 1 (.seq (.seqr [⟨(.ia (.tmp (pth 8)) (.tmp (pth 10)) 1), opAt P 36 3 0, (some (pth 12)), none⟩,
⟨(.ld 3 (.tmp (pth 12))), opAt P 36 3 1, (some (pth 13)), none⟩,
⟨(.mv (.tmp (pth 13))), opAt P 36 3 2, (some (pth 5)), none⟩])
(.seqr [⟨(.mv (.tmp (pth 0))), opAt P 36 4 0, (some (pth 14)), none⟩,
⟨(.mv (.tmp (pth 0))), opAt P 36 4 1, (some (pth 15)), none⟩,
⟨(.nc (.tmp (pth 15))), opAt P 36 4 2, (some (pth 16)), none⟩,
⟨(.fa (.tmp (pth 16)) 0), opAt P 36 4 3, (some (pth 17)), none⟩,
⟨(.ld 26 (.tmp (pth 17))), opAt P 36 4 4, (some (pth 18)), none⟩,
⟨(.mv (.tmp (pth 5))), opAt P 36 4 5, (some (pth 19)), none⟩,
⟨(.call 58 [(.tmp (pth 18)), (.tmp (pth 19))]), opAt P 36 4 6, (some (pth 20)), none⟩,
⟨(.nc (.tmp (pth 14))), opAt P 36 4 7, (some (pth 21)), none⟩,
⟨(.fa (.tmp (pth 21)) 0), opAt P 36 4 8, (some (pth 22)), none⟩,
⟨(.st 26 (.tmp (pth 22)) (.tmp (pth 20))), opAt P 36 4 9, none, none⟩])))
(.seqr [⟨(.bin .add (.tmp (pth 10)) (.val (.int .i64 (1)))), opAt P 36 5 0, (some (pth 23)), none⟩,
⟨(.mv (.tmp (pth 23))), opAt P 36 5 1, (some (pth 10)), none⟩])))))))), []⟩
theorem cf36_ok : cFn Tryd.prog 36 = some (cf36 Tryd.prog) := by kernel_rfl
def cf37 (P : Program) : FF := ⟨27, (.seq (.seq (.seqr [⟨(.mv (.tmp (pth 0))), opAt P 37 0 0, (some (pth 6)), none⟩,
⟨(.bin .eql (.tmp (pth 6)) (.val (.pointer none))), opAt P 37 0 1, (some (pth 7)), none⟩])
(.cond (.tmp (pth 7)) .ret
.skip))
(.seq (.seqr [⟨(.mv (.tmp (pth 1))), opAt P 37 1 0, (some (pth 8)), none⟩,
⟨.slow, opAt P 37 1 1, (some (pth 9)), none⟩,
⟨(.mv (.val (.int .i64 (0)))), opAt P 37 1 2, (some (pth 10)), none⟩])
(.block 0 (.loop (.seq (.seqr [⟨(.bin .lss (.tmp (pth 10)) (.tmp (pth 9))), opAt P 37 2 0, (some (pth 11)), none⟩])
(.seq (.cond (.tmp (pth 11)) .skip
(.exit 0))
(.seq (.block 1 (.seq (.seqr [⟨(.ia (.tmp (pth 8)) (.tmp (pth 10)) 1), opAt P 37 3 0, (some (pth 12)), none⟩,
⟨(.ld 26 (.tmp (pth 12))), opAt P 37 3 1, (some (pth 13)), none⟩,
⟨(.mv (.tmp (pth 13))), opAt P 37 3 2, (some (pth 5)), none⟩])
(.seqr [⟨(.mv (.tmp (pth 0))), opAt P 37 4 0, (some (pth 14)), none⟩,
⟨(.mv (.tmp (pth 0))), opAt P 37 4 1, (some (pth 15)), none⟩,
⟨(.nc (.tmp (pth 15))), opAt P 37 4 2, (some (pth 16)), none⟩,
⟨(.fa (.tmp (pth 16)) 0), opAt P 37 4 3, (some (pth 17)), none⟩,
⟨(.ld 26 (.tmp (pth 17))), opAt P 37 4 4, (some (pth 18)), none⟩,
⟨(.mv (.tmp (pth 5))), opAt P 37 4 5, (some (pth 19)), none⟩,
⟨.slow, opAt P 37 4 6, (some (pth 20)), none⟩,
⟨(.call 58 [(.tmp (pth 18)), (.tmp (pth 20))]), opAt P 37 4 7, (some (pth 21)), none⟩,
⟨(.mv (.tmp (pth 5))), opAt P 37 4 8, (some (pth 22)), none⟩,
⟨.slow, opAt P 37 4 9, (some (pth 23)), none⟩,
⟨(.nc (.tmp (pth 14))), opAt P 37 4 10, (some (pth 24)), none⟩,
⟨(.fa (.tmp (pth 24)) 0), opAt P 37 4 11, (some (pth 25)), none⟩,
⟨(.st 26 (.tmp (pth 25)) (.tmp (pth 23))), opAt P 37 4 12, none, none⟩])))
(.seqr [⟨(.bin .add (.tmp (pth 10)) (.val (.int .i64 (1)))), opAt P 37 5 0, (some (pth 26)), none⟩,
⟨(.mv (.tmp (pth 26))), opAt P 37 5 1, (some (pth 10)), none⟩])))))))), []⟩
theorem cf37_ok : cFn Tryd.prog 37 = some (cf37 Tryd.prog) := by kernel_rfl
def cf38 (P : Program) : FF := ⟨23, (.seq (.seqr [⟨.slow, opAt P 38 0 0, (some (pth 1)), none⟩,
⟨(.mv (.val .nilFunc)), opAt P 38 0 1, (some (pth 2)), none⟩])
(.seq (.seq (.seqr [⟨(.fa (.tmp (pth 1)) 0), opAt P 38 1 0, (some (pth 3)), none⟩,
⟨(.ld 3 (.tmp (pth 3))), opAt P 38 1 1, (some (pth 4)), none⟩])
(.block 0 (.seq (.seqr [⟨(.bin .eql (.tmp (pth 4)) (.val (.int .i64 (3)))), opAt P 38 2 0, (some (pth 6)), none⟩,
⟨(.mv (.tmp (pth 6))), opAt P 38 2 1, (some (pth 5)), none⟩])
(.cond (.tmp (pth 5)) (.seq (.seqr [⟨(.ld 62 (.tmp (pth 1))), opAt P 38 3 0, (some (pth 7)), none⟩,
⟨.slow, opAt P 38 3 1, (some (pth 8)), none⟩,
⟨(.mv (.tmp (pth 8))), opAt P 38 3 2, (some (pth 2)), none⟩])
.ret)
(.seq (.seqr [⟨(.bin .eql (.tmp (pth 4)) (.val (.int .i64 (4)))), opAt P 38 4 0, (some (pth 10)), none⟩,
⟨(.mv (.tmp (pth 10))), opAt P 38 4 1, (some (pth 9)), none⟩])
(.cond (.tmp (pth 9)) (.seq (.seqr [⟨(.ld 62 (.tmp (pth 1))), opAt P 38 5 0, (some (pth 11)), none⟩,
⟨.slow, opAt P 38 5 1, (some (pth 12)), none⟩,
⟨(.mv (.tmp (pth 12))), opAt P 38 5 2, (some (pth 2)), none⟩])
.ret)
(.seq (.seqr [⟨(.bin .eql (.tmp (pth 4)) (.val (.int .i64 (5)))), opAt P 38 6 0, (some (pth 14)), none⟩,
⟨(.mv (.tmp (pth 14))), opAt P 38 6 1, (some (pth 13)), none⟩])
(.cond (.tmp (pth 13)) (.seq (.seqr [⟨(.ld 62 (.tmp (pth 1))), opAt P 38 7 0, (some (pth 15)), none⟩,
⟨.slow, opAt P 38 7 1, (some (pth 16)), none⟩,
⟨(.mv (.tmp (pth 16))), opAt P 38 7 2, (some (pth 2)), none⟩])
.ret)
(.seq (.seqr [⟨(.bin .eql (.tmp (pth 4)) (.val (.int .i64 (6)))), opAt P 38 8 0, (some (pth 18)), none⟩,
⟨(.mv (.tmp (pth 18))), opAt P 38 8 1, (some (pth 17)), none⟩])
(.cond (.tmp (pth 17)) (.seq (.seqr [⟨(.ld 62 (.tmp (pth 1))), opAt P 38 9 0, (some (pth 19)), none⟩,
⟨.slow, opAt P 38 9 1, (some (pth 20)), none⟩,
⟨(.mv (.tmp (pth 20))), opAt P 38 9 2, (some (pth 2)), none⟩])
.ret)
.skip))))))))))
(.seq (.seqr [⟨(.ld 62 (.tmp (pth 1))), opAt P 38 10 0, (some (pth 21)), none⟩,
⟨.slow, opAt P 38 10 1, (some (pth 22)), none⟩,
⟨(.mv (.tmp (pth 22))), opAt P 38 10 2, (some (pth 2)), none⟩])
.ret))), [.tmp (pth 2)]⟩
theorem cf38_ok : cFn Tryd.prog 38 = some (cf38 Tryd.prog) := by kernel_rfl
def cf39 (P : Program) : FF := ⟨51, (.seq (.seqr [⟨(.mv (.val (.slice none 0 0))), opAt P 39 0 0, (some (pth 2)), none⟩,
⟨(.mv (.val (.int .i64 (0)))), opAt P 39 0 1, (some (pth 3)), none⟩])
(.seq (.seqr [⟨(.mv (.val (.int .i64 (0)))), opAt P 39 1 0, (some (pth 4)), none⟩])
(.seq (.seq (.seqr [⟨(.mv (.tmp (pth 0))), opAt P 39 2 0, (some (pth 10)), none⟩,
⟨.slow, opAt P 39 2 1, (some (pth 11)), none⟩,
⟨(.mv (.val (.int .i64 (0)))), opAt P 39 2 2, (some (pth 12)), none⟩])
(.block 0 (.loop (.seq (.seqr [⟨(.bin .lss (.tmp (pth 12)) (.tmp (pth 11))), opAt P 39 3 0, (some (pth 13)), none⟩])
(.seq (.cond (.tmp (pth 13)) .skip
(.exit 0))
(.seq (.block 1 (.seq (.seqr [⟨(.ia (.tmp (pth 10)) (.tmp (pth 12)) 1), opAt P 39 4 0, (some (pth 14)), none⟩,
⟨(.ld 26 (.tmp (pth 14))), opAt P 39 4 1, (some (pth 15)), none⟩,
⟨(.mv (.tmp (pth 15))), opAt P 39 4 2, (some (pth 6)), none⟩])
(.seqr [⟨(.mv (.tmp (pth 4))), opAt P 39 5 0, (some (pth 16)), none⟩,
⟨(.mv (.tmp (pth 6))), opAt P 39 5 1, (some (pth 17)), none⟩,
⟨.slow, opAt P 39 5 2, (some (pth 18)), none⟩,
⟨(.bin .add (.tmp (pth 16)) (.tmp (pth 18))), opAt P 39 5 3, (some (pth 19)), none⟩,
⟨(.mv (.tmp (pth 19))), opAt P 39 5 4, (some (pth 4)), none⟩])))
(.seqr [⟨(.bin .add (.tmp (pth 12)) (.val (.int .i64 (1)))), opAt P 39 6 0, (some (pth 20)), none⟩,
⟨(.mv (.tmp (pth 20))), opAt P 39 6 1, (some (pth 12)), none⟩])))))))
(.seq (.seq (.seqr [⟨(.mv (.tmp (pth 4))), opAt P 39 7 0, (some (pth 21)), none⟩,
⟨(.bin .gtr (.tmp (pth 21)) (.val (.int .i64 (1048576)))), opAt P 39 7 1, (some (pth 22)), none⟩])
(.cond (.tmp (pth 22)) (.seq (.seqr [⟨(.mv (.val (.slice none 0 0))), opAt P 39 8 0, (some (pth 2)), none⟩,
⟨(.mv (.val (.int .i64 (5)))), opAt P 39 8 1, (some (pth 3)), none⟩])
.ret)
.skip))
(.seq (.seqr [⟨(.mv (.tmp (pth 4))), opAt P 39 9 0, (some (pth 23)), none⟩,
⟨(.bin .add (.val (.int .i64 (8))) (.tmp (pth 23))), opAt P 39 9 1, (some (pth 24)), none⟩,
⟨(.bin .add (.tmp (pth 24)) (.val (.int .i64 (4)))), opAt P 39 9 2, (some (pth 25)), none⟩,
⟨.slow, opAt P 39 9 3, (some (pth 26)), none⟩,
⟨(.mv (.tmp (pth 26))), opAt P 39 9 4, (some (pth 7)), none⟩])
(.seq (.seqr [⟨(.mv (.tmp (pth 7))), opAt P 39 10 0, (some (pth 27)), none⟩,
⟨(.mv (.tmp (pth 4))), opAt P 39 10 1, (some (pth 28)), none⟩,
⟨.slow, opAt P 39 10 2, (some (pth 29)), none⟩,
⟨(.call 64 [(.tmp (pth 27)), (.tmp (pth 29))]), opAt P 39 10 3, (some (pth 30)), none⟩,
⟨(.mv (.tmp (pth 30))), opAt P 39 10 4, (some (pth 7)), none⟩])
(.seq (.seqr [⟨(.mv (.tmp (pth 7))), opAt P 39 11 0, (some (pth 31)), none⟩,
⟨(.mv (.tmp (pth 7))), opAt P 39 11 1, (some (pth 32)), none⟩,
⟨.slow, opAt P 39 11 2, (some (pth 33)), none⟩,
⟨(.call 65 [(.tmp (pth 33))]), opAt P 39 11 3, (some (pth 34)), none⟩,
⟨(.call 64 [(.tmp (pth 31)), (.tmp (pth 34))]), opAt P 39 11 4, (some (pth 35)), none⟩,
⟨(.mv (.tmp (pth 35))), opAt P 39 11 5, (some (pth 7)), none⟩])
(.seq (.seq (.seqr [⟨(.mv (.tmp (pth 0))), opAt P 39 12 0, (some (pth 36)), none⟩,
⟨.slow, opAt P 39 12 1, (some (pth 37)), none⟩,
⟨(.mv (.val (.int .i64 (0)))), opAt P 39 12 2, (some (pth 38)), none⟩])
(.block 2 (.loop (.seq (.seqr [⟨(.bin .lss (.tmp (pth 38)) (.tmp (pth 37))), opAt P 39 13 0, (some (pth 39)), none⟩])
(.seq (.cond (.tmp (pth 39)) .skip
(.exit 2))
(.seq (.block 3 (.seq (.seqr [⟨(.ia (.tmp (pth 36)) (.tmp (pth 38)) 1), opAt P 39 14 0, (some (pth 40)), none⟩,
⟨(.ld 26 (.tmp (pth 40))), opAt P 39 14 1, (some (pth 41)), none⟩,
⟨(.mv (.tmp (pth 41))), opAt P 39 14 2, (some (pth 9)), none⟩])
(.seqr [⟨(.mv (.tmp (pth 7))), opAt P 39 15 0, (some (pth 42)), none⟩,
⟨(.mv (.tmp (pth 9))), opAt P 39 15 1, (some (pth 43)), none⟩,
⟨.slow, opAt P 39 15 2, (some (pth 44)), none⟩,
⟨(.mv (.tmp (pth 44))), opAt P 39 15 3, (some (pth 7)), none⟩])))
(.seqr [⟨(.bin .add (.tmp (pth 38)) (.val (.int .i64 (1)))), opAt P 39 16 0, (some (pth 45)), none⟩,
⟨(.mv (.tmp (pth 45))), opAt P 39 16 1, (some (pth 38)), none⟩])))))))
(.seq (.seqr [⟨(.mv (.tmp (pth 7))), opAt P 39 17 0, (some (pth 46)), none⟩,
⟨(.mv (.tmp (pth 7))), opAt P 39 17 1, (some (pth 47)), none⟩,
⟨.slow, opAt P 39 17 2, (some (pth 48)), none⟩,
⟨(.call 65 [(.tmp (pth 48))]), opAt P 39 17 3, (some (pth 49)), none⟩,
⟨(.call 64 [(.tmp (pth 46)), (.tmp (pth 49))]), opAt P 39 17 4, (some (pth 50)), none⟩,
⟨(.mv (.tmp (pth 50))), opAt P 39 17 5, (some (pth 2)), none⟩,
⟨(.mv (.val (.int .i64 (0)))), opAt P 39 17 6, (some (pth 3)), none⟩])
.ret))))))))), [.tmp (pth 2), .tmp (pth 3)]⟩
theorem cf39_ok : cFn Tryd.prog 39 = some (cf39 Tryd.prog) := by kernel_rfl
def cf40 (P : Program) : FF := ⟨10, (.seq (.seqr [⟨(.mv (.val (.slice none 0 0))), opAt P 40 0 0, (some (pth 2)), none⟩])
(.seq (.seq (.seqr [⟨(.mv (.tmp (pth 0))), opAt P 40 1 0, (some (pth 3)), none⟩,
⟨(.bin .eql (.tmp (pth 3)) (.val (.pointer none))), opAt P 40 1 1, (some (pth 4)), none⟩])
(.cond (.tmp (pth 4)) (.seq (.seqr [⟨(.mv (.val (.slice none 0 0))), opAt P 40 2 0, (some (pth 2)), none⟩])
.ret)
.skip))
(.seq (.seqr [⟨(.mv (.tmp (pth 0))), opAt P 40 3 0, (some (pth 5)), none⟩,
⟨(.nc (.tmp (pth 5))), opAt P 40 3 1, (some (pth 6)), none⟩,
⟨(.fa (.tmp (pth 6)) 0), opAt P 40 3 2, (some (pth 7)), none⟩,
⟨(.ld 26 (.tmp (pth 7))), opAt P 40 3 3, (some (pth 8)), none⟩,
⟨(.call 42 [(.tmp (pth 8))]), opAt P 40 3 4, (some (pth 9)), none⟩,
⟨(.mv (.tmp (pth 9))), opAt P 40 3 5, (some (pth 2)), none⟩])
.ret))), [.tmp (pth 2)]⟩
theorem cf40_ok : cFn Tryd.prog 40 = some (cf40 Tryd.prog) := by kernel_rfl
def cf41 (P : Program) : FF := ⟨44, (.seq (.seqr [⟨(.mv (.val (.slice none 0 0))), opAt P 41 0 0, (some (pth 2)), none⟩,
⟨(.mv (.val (.int .i64 (0)))), opAt P 41 0 1, (some (pth 3)), none⟩,
⟨(.mv (.val (.int .i64 (0)))), opAt P 41 0 2, (some (pth 4)), none⟩])
(.seq (.seq (.seqr [⟨(.mv (.tmp (pth 0))), opAt P 41 1 0, (some (pth 7)), none⟩,
⟨.slow, opAt P 41 1 1, (some (pth 8)), none⟩,
⟨(.bin .lss (.tmp (pth 8)) (.val (.int .i64 (8)))), opAt P 41 1 2, (some (pth 9)), none⟩])
(.cond (.tmp (pth 9)) (.seq (.seqr [⟨(.mv (.val (.slice none 0 0))), opAt P 41 2 0, (some (pth 2)), none⟩,
⟨(.mv (.val (.int .i64 (0)))), opAt P 41 2 1, (some (pth 3)), none⟩,
⟨(.mv (.val (.int .i64 (2)))), opAt P 41 2 2, (some (pth 4)), none⟩])
.ret)
.skip))
(.seq (.seq (.seqr [⟨(.mv (.tmp (pth 0))), opAt P 41 3 0, (some (pth 10)), none⟩,
⟨.slow, opAt P 41 3 1, (some (pth 11)), none⟩,
⟨.slow, opAt P 41 3 2, (some (pth 12)), none⟩,
⟨(.call 65 [(.tmp (pth 12))]), opAt P 41 3 3, (some (pth 13)), none⟩,
⟨(.mv (.tmp (pth 0))), opAt P 41 3 4, (some (pth 14)), none⟩,
⟨(.call 66 [(.tmp (pth 14)), (.val (.int .i64 (4)))]), opAt P 41 3 5, (some (pth 15)), none⟩,
⟨(.bin .neq (.tmp (pth 13)) (.tmp (pth 15))), opAt P 41 3 6, (some (pth 16)), none⟩])
(.cond (.tmp (pth 16)) (.seq (.seqr [⟨(.mv (.val (.slice none 0 0))), opAt P 41 4 0, (some (pth 2)), none⟩,
⟨(.mv (.val (.int .i64 (0)))), opAt P 41 4 1, (some (pth 3)), none⟩,
⟨(.mv (.val (.int .i64 (4)))), opAt P 41 4 2, (some (pth 4)), none⟩])
.ret)
.skip))
(.seq (.seqr [⟨(.mv (.tmp (pth 0))), opAt P 41 5 0, (some (pth 17)), none⟩,
⟨(.call 66 [(.tmp (pth 17)), (.val (.int .i64 (0)))]), opAt P 41 5 1, (some (pth 18)), none⟩,
⟨(.mv (.tmp (pth 18))), opAt P 41 5 2, (some (pth 5)), none⟩])
(.seq (.seq (.seqr [⟨(.mv (.tmp (pth 5))), opAt P 41 6 0, (some (pth 19)), none⟩,
⟨(.bin .gtr (.tmp (pth 19)) (.val (.int .u32 (1048576)))), opAt P 41 6 1, (some (pth 20)), none⟩])
(.cond (.tmp (pth 20)) (.seq (.seqr [⟨(.mv (.val (.slice none 0 0))), opAt P 41 7 0, (some (pth 2)), none⟩,
⟨(.mv (.val (.int .i64 (0)))), opAt P 41 7 1, (some (pth 3)), none⟩,
⟨(.mv (.val (.int .i64 (5)))), opAt P 41 7 2, (some (pth 4)), none⟩])
.ret)
.skip))
(.seq (.seqr [⟨(.mv (.tmp (pth 5))), opAt P 41 8 0, (some (pth 21)), none⟩,
⟨.slow, opAt P 41 8 1, (some (pth 22)), none⟩,
⟨(.bin .add (.val (.int .i64 (8))) (.tmp (pth 22))), opAt P 41 8 2, (some (pth 23)), none⟩,
⟨(.mv (.tmp (pth 23))), opAt P 41 8 3, (some (pth 6)), none⟩])
(.seq (.seq (.seqr [⟨(.mv (.tmp (pth 0))), opAt P 41 9 0, (some (pth 24)), none⟩,
⟨.slow, opAt P 41 9 1, (some (pth 25)), none⟩,
⟨(.mv (.tmp (pth 6))), opAt P 41 9 2, (some (pth 26)), none⟩,
⟨(.bin .add (.tmp (pth 26)) (.val (.int .i64 (4)))), opAt P 41 9 3, (some (pth 27)), none⟩,
⟨(.bin .lss (.tmp (pth 25)) (.tmp (pth 27))), opAt P 41 9 4, (some (pth 28)), none⟩])
(.cond (.tmp (pth 28)) (.seq (.seqr [⟨(.mv (.val (.slice none 0 0))), opAt P 41 10 0, (some (pth 2)), none⟩,
⟨(.mv (.val (.int .i64 (0)))), opAt P 41 10 1, (some (pth 3)), none⟩,
⟨(.mv (.val (.int .i64 (2)))), opAt P 41 10 2, (some (pth 4)), none⟩])
.ret)
.skip))
(.seq (.seq (.seqr [⟨(.mv (.tmp (pth 0))), opAt P 41 11 0, (some (pth 29)), none⟩,
⟨(.mv (.tmp (pth 6))), opAt P 41 11 1, (some (pth 30)), none⟩,
⟨.slow, opAt P 41 11 2, (some (pth 31)), none⟩,
⟨.slow, opAt P 41 11 3, (some (pth 32)), none⟩,
⟨(.call 65 [(.tmp (pth 32))]), opAt P 41 11 4, (some (pth 33)), none⟩,
⟨(.mv (.tmp (pth 0))), opAt P 41 11 5, (some (pth 34)), none⟩,
⟨(.mv (.tmp (pth 6))), opAt P 41 11 6, (some (pth 35)), none⟩,
⟨(.call 66 [(.tmp (pth 34)), (.tmp (pth 35))]), opAt P 41 11 7, (some (pth 36)), none⟩,
⟨(.bin .neq (.tmp (pth 33)) (.tmp (pth 36))), opAt P 41 11 8, (some (pth 37)), none⟩])
(.cond (.tmp (pth 37)) (.seq (.seqr [⟨(.mv (.val (.slice none 0 0))), opAt P 41 12 0, (some (pth 2)), none⟩,
⟨(.mv (.val (.int .i64 (0)))), opAt P 41 12 1, (some (pth 3)), none⟩,
⟨(.mv (.val (.int .i64 (4)))), opAt P 41 12 2, (some (pth 4)), none⟩])
.ret)
.skip))
(.seq (.seqr [⟨(.mv (.tmp (pth 0))), opAt P 41 13 0, (some (pth 38)), none⟩,
⟨(.mv (.tmp (pth 6))), opAt P 41 13 1, (some (pth 39)), none⟩,
⟨.slow, opAt P 41 13 2, (some (pth 40)), none⟩,
⟨(.call 42 [(.tmp (pth 40))]), opAt P 41 13 3, (some (pth 41)), none⟩,
⟨(.mv (.tmp (pth 6))), opAt P 41 13 4, (some (pth 42)), none⟩,
⟨(.bin .add (.tmp (pth 42)) (.val (.int .i64 (4)))), opAt P 41 13 5, (some (pth 43)), none⟩,
⟨(.mv (.tmp (pth 41))), opAt P 41 13 6, (some (pth 2)), none⟩,
⟨(.mv (.tmp (pth 43))), opAt P 41 13 7, (some (pth 3)), none⟩,
⟨(.mv (.val (.int .i64 (0)))), opAt P 41 13 8, (some (pth 4)), none⟩])
.ret))))))))), [.tmp (pth 2), .tmp (pth 3), .tmp (pth 4)]⟩
theorem cf41_ok : cFn Tryd.prog 41 = some (cf41 Tryd.prog) := by kernel_rfl
def cf42 (P : Program) : FF := ⟨8, (.seq (.seqr [⟨(.mv (.val (.slice none 0 0))), opAt P 42 0 0, (some (pth 2)), none⟩])
(.seq (.seq (.seqr [⟨(.mv (.tmp (pth 0))), opAt P 42 1 0, (some (pth 3)), none⟩,
⟨(.bin .eql (.tmp (pth 3)) (.val (.slice none 0 0))), opAt P 42 1 1, (some (pth 4)), none⟩])
(.cond (.tmp (pth 4)) (.seq (.seqr [⟨(.mv (.val (.slice none 0 0))), opAt P 42 2 0, (some (pth 2)), none⟩])
.ret)
.skip))
(.seq (.seqr [⟨.slow, opAt P 42 3 0, (some (pth 5)), none⟩,
⟨(.mv (.tmp (pth 0))), opAt P 42 3 1, (some (pth 6)), none⟩,
⟨.slow, opAt P 42 3 2, (some (pth 7)), none⟩,
⟨(.mv (.tmp (pth 7))), opAt P 42 3 3, (some (pth 2)), none⟩])
.ret))), [.tmp (pth 2)]⟩
theorem cf42_ok : cFn Tryd.prog 42 = some (cf42 Tryd.prog) := by kernel_rfl
def cf43 (P : Program) : FF := ⟨60, (.seq (.seqr [⟨(.mv (.val (.int .i64 (0)))), opAt P 43 0 0, (some (pth 2)), none⟩])
(.seq (.seq (.seqr [⟨(.mv (.tmp (pth 0))), opAt P 43 1 0, (some (pth 6)), none⟩,
⟨(.bin .eql (.tmp (pth 6)) (.val (.pointer none))), opAt P 43 1 1, (some (pth 7)), none⟩])
(.cond (.tmp (pth 7)) (.seq (.seqr [⟨(.mv (.val (.int .i64 (0)))), opAt P 43 2 0, (some (pth 2)), none⟩])
.ret)
.skip))
(.seq (.seqr [⟨(.mv (.val (.int .i64 (0)))), opAt P 43 3 0, (some (pth 3)), none⟩])
(.seq (.seq (.reg [⟨(.mv (.tmp (pth 0))), opAt P 43 4 0, (some (pth 8)), none⟩,
⟨(.nc (.tmp (pth 8))), opAt P 43 4 1, (some (pth 9)), none⟩,
⟨(.fa (.tmp (pth 9)) 0), opAt P 43 4 2, (some (pth 10)), none⟩,
⟨(.ld 26 (.tmp (pth 10))), opAt P 43 4 3, (some (pth 11)), none⟩,
⟨(.mv (.tmp (pth 0))), opAt P 43 4 4, (some (pth 12)), none⟩,
⟨(.nc (.tmp (pth 12))), opAt P 43 4 5, (some (pth 13)), none⟩,
⟨(.fa (.tmp (pth 13)) 0), opAt P 43 4 6, (some (pth 14)), none⟩,
⟨(.ld 26 (.tmp (pth 14))), opAt P 43 4 7, (some (pth 15)), none⟩,
⟨.slow, opAt P 43 4 8, (some (pth 16)), none⟩,
⟨.slow, opAt P 43 4 9, (some (pth 17)), none⟩,
⟨.slow, opAt P 43 4 10, (some (pth 18)), none⟩,
⟨.slow, opAt P 43 4 11, (some (pth 19)), none⟩,
⟨(.mv (.val (.int .i64 (0)))), opAt P 43 4 12, (some (pth 20)), none⟩] [(3, 7), (3, 8), (3, 9)])
(.block 0 (.loop (.seq (.seqr [⟨(.bin .lss (.tmp (pth 20)) (.tmp (pth 19))), opAt P 43 5 0, (some (pth 21)), none⟩])
(.seq (.cond (.tmp (pth 21)) .skip
(.exit 0))
(.seq (.block 1 (.seq (.seqr [⟨(.mv (.tmp (pth 20))), opAt P 43 6 0, (some (pth 22)), none⟩,
⟨(.ia (.tmp (pth 18)) (.tmp (pth 20)) 1), opAt P 43 6 1, (some (pth 23)), none⟩,
⟨(.ld 5 (.tmp (pth 23))), opAt P 43 6 2, (some (pth 24)), none⟩,
⟨(.mv (.tmp (pth 22))), opAt P 43 6 3, (some (pth 4)), none⟩,
⟨(.mv (.tmp (pth 24))), opAt P 43 6 4, (some (pth 5)), none⟩])
(.seq (.seqr [⟨(.mv (.tmp (pth 3))), opAt P 43 7 0, (some (pth 25)), none⟩,
⟨(.mv (.tmp (pth 5))), opAt P 43 7 1, (some (pth 26)), none⟩,
⟨(.bin .andNot (.tmp (pth 26)) (.val (.int .u8 (128)))), opAt P 43 7 2, (some (pth 27)), none⟩,
⟨.slow, opAt P 43 7 3, (some (pth 28)), none⟩,
⟨(.mv (.tmp (pth 4))), opAt P 43 7 4, (some (pth 29)), none⟩,
⟨(.bin .mul (.val (.int .i64 (7))) (.tmp (pth 29))), opAt P 43 7 5, (some (pth 30)), none⟩,
⟨(.bin .shl (.tmp (pth 28)) (.tmp (pth 30))), opAt P 43 7 6, (some (pth 31)), none⟩,
⟨(.bin .or (.tmp (pth 25)) (.tmp (pth 31))), opAt P 43 7 7, (some (pth 32)), none⟩,
⟨(.mv (.tmp (pth 32))), opAt P 43 7 8, (some (pth 3)), none⟩])
(.seq (.seq (.seqr [⟨(.mv (.tmp (pth 5))), opAt P 43 8 0, (some (pth 33)), none⟩,
⟨(.bin .and (.tmp (pth 33)) (.val (.int .u8 (128)))), opAt P 43 8 1, (some (pth 34)), none⟩,
⟨(.bin .neq (.tmp (pth 34)) (.val (.int .u8 (0)))), opAt P 43 8 2, (some (pth 35)), none⟩])
(.cond (.tmp (pth 35)) (.exit 1)
.skip))
(.seq (.seq (.seqr [⟨(.mv (.tmp (pth 4))), opAt P 43 9 0, (some (pth 36)), none⟩,
⟨(.bin .gtr (.tmp (pth 36)) (.val (.int .i64 (0)))), opAt P 43 9 1, (some (pth 37)), none⟩,
⟨(.mv (.tmp (pth 37))), opAt P 43 9 2, (some (pth 38)), none⟩,
⟨(.mv (.tmp (pth 5))), opAt P 43 9 3, (some (pth 39)), (some ((pth 38), true))⟩,
⟨(.bin .eql (.tmp (pth 39)) (.val (.int .u8 (0)))), opAt P 43 9 4, (some (pth 40)), (some ((pth 38), true))⟩,
⟨(.pick (.tmp (pth 38)) (.tmp (pth 40)) (.val (.bool false))), opAt P 43 9 5, (some (pth 41)), none⟩,
⟨(.mv (.tmp (pth 41))), opAt P 43 9 6, (some (pth 42)), none⟩,
⟨(.mv (.tmp (pth 3))), opAt P 43 9 7, (some (pth 43)), (some ((pth 42), false))⟩,
⟨(.bin .gtr (.tmp (pth 43)) (.val (.int .i64 (4611686018427387904)))), opAt P 43 9 8, (some (pth 44)), (some ((pth 42), false))⟩,
⟨(.pick (.tmp (pth 42)) (.val (.bool true)) (.tmp (pth 44))), opAt P 43 9 9, (some (pth 45)), none⟩])
(.cond (.tmp (pth 45)) (.exit 0)
.skip))
(.seq (.seqr [⟨(.mv (.tmp (pth 0))), opAt P 43 10 0, (some (pth 46)), none⟩,
⟨(.mv (.tmp (pth 0))), opAt P 43 10 1, (some (pth 47)), none⟩,
⟨(.nc (.tmp (pth 47))), opAt P 43 10 2, (some (pth 48)), none⟩,
⟨(.fa (.tmp (pth 48)) 0), opAt P 43 10 3, (some (pth 49)), none⟩,
⟨(.ld 26 (.tmp (pth 49))), opAt P 43 10 4, (some (pth 50)), none⟩,
⟨(.mv (.tmp (pth 4))), opAt P 43 10 5, (some (pth 51)), none⟩,
⟨(.bin .add (.tmp (pth 51)) (.val (.int .i64 (1)))), opAt P 43 10 6, (some (pth 52)), none⟩,
⟨.slow, opAt P 43 10 7, (some (pth 53)), none⟩,
⟨(.nc (.tmp (pth 46))), opAt P 43 10 8, (some (pth 54)), none⟩,
⟨(.fa (.tmp (pth 54)) 0), opAt P 43 10 9, (some (pth 55)), none⟩,
⟨(.st 26 (.tmp (pth 55)) (.tmp (pth 53))), opAt P 43 10 10, none, none⟩])
(.seq (.seqr [⟨(.mv (.tmp (pth 3))), opAt P 43 11 0, (some (pth 56)), none⟩,
⟨(.mv (.tmp (pth 56))), opAt P 43 11 1, (some (pth 2)), none⟩])
.ret)))))))
(.seqr [⟨(.bin .add (.tmp (pth 20)) (.val (.int .i64 (1)))), opAt P 43 12 0, (some (pth 57)), none⟩,
⟨(.mv (.tmp (pth 57))), opAt P 43 12 1, (some (pth 20)), none⟩])))))))
(.seq (.seqr [⟨(.mv (.tmp (pth 0))), opAt P 43 13 0, (some (pth 58)), none⟩,
⟨(.call 49 [(.tmp (pth 58))]), opAt P 43 13 1, (some (pth 59)), none⟩])
(.seq (.seqr [⟨(.mv (.val (.int .i64 (0)))), opAt P 43 14 0, (some (pth 2)), none⟩])
.ret)))))), [.tmp (pth 2)]⟩
theorem cf43_ok : cFn Tryd.prog 43 = some (cf43 Tryd.prog) := by kernel_rfl
def cf44 (P : Program) : FF := ⟨38, (.seq (.seqr [⟨(.mv (.val (.slice none 0 0))), opAt P 44 0 0, (some (pth 4)), none⟩])
(.seq (.seq (.seqr [⟨(.mv (.tmp (pth 0))), opAt P 44 1 0, (some (pth 6)), none⟩,
⟨(.bin .eql (.tmp (pth 6)) (.val (.pointer none))), opAt P 44 1 1, (some (pth 7)), none⟩])
(.cond (.tmp (pth 7)) (.seq (.seqr [⟨(.mv (.val (.slice none 0 0))), opAt P 44 2 0, (some (pth 4)), none⟩])
.ret)
.skip))
(.seq (.seq (.seqr [⟨(.mv (.tmp (pth 1))), opAt P 44 3 0, (some (pth 8)), none⟩,
⟨(.bin .lss (.tmp (pth 8)) (.val (.int .i64 (0)))), opAt P 44 3 1, (some (pth 9)), none⟩,
⟨(.mv (.tmp (pth 9))), opAt P 44 3 2, (some (pth 10)), none⟩,
⟨(.mv (.tmp (pth 1))), opAt P 44 3 3, (some (pth 11)), (some ((pth 10), false))⟩,
⟨(.mv (.tmp (pth 0))), opAt P 44 3 4, (some (pth 12)), (some ((pth 10), false))⟩,
⟨(.nc (.tmp (pth 12))), opAt P 44 3 5, (some (pth 13)), (some ((pth 10), false))⟩,
⟨(.fa (.tmp (pth 13)) 0), opAt P 44 3 6, (some (pth 14)), (some ((pth 10), false))⟩,
⟨(.ld 26 (.tmp (pth 14))), opAt P 44 3 7, (some (pth 15)), (some ((pth 10), false))⟩,
⟨.slow, opAt P 44 3 8, (some (pth 16)), (some ((pth 10), false))⟩,
⟨(.bin .gtr (.tmp (pth 11)) (.tmp (pth 16))), opAt P 44 3 9, (some (pth 17)), (some ((pth 10), false))⟩,
⟨(.pick (.tmp (pth 10)) (.val (.bool true)) (.tmp (pth 17))), opAt P 44 3 10, (some (pth 18)), none⟩])
(.cond (.tmp (pth 18)) (.seq (.seqr [⟨(.mv (.tmp (pth 0))), opAt P 44 4 0, (some (pth 19)), none⟩,
⟨(.call 49 [(.tmp (pth 19))]), opAt P 44 4 1, (some (pth 20)), none⟩])
(.seq (.seqr [⟨(.mv (.val (.slice none 0 0))), opAt P 44 5 0, (some (pth 4)), none⟩])
.ret))
.skip))
(.seq (.seqr [⟨(.mv (.tmp (pth 0))), opAt P 44 6 0, (some (pth 21)), none⟩,
⟨(.nc (.tmp (pth 21))), opAt P 44 6 1, (some (pth 22)), none⟩,
⟨(.fa (.tmp (pth 22)) 0), opAt P 44 6 2, (some (pth 23)), none⟩,
⟨(.ld 26 (.tmp (pth 23))), opAt P 44 6 3, (some (pth 24)), none⟩,
⟨(.mv (.tmp (pth 1))), opAt P 44 6 4, (some (pth 25)), none⟩,
⟨.slow, opAt P 44 6 5, (some (pth 26)), none⟩,
⟨(.call 42 [(.tmp (pth 26))]), opAt P 44 6 6, (some (pth 27)), none⟩,
⟨(.mv (.tmp (pth 27))), opAt P 44 6 7, (some (pth 5)), none⟩])
(.seq (.seqr [⟨(.mv (.tmp (pth 0))), opAt P 44 7 0, (some (pth 28)), none⟩,
⟨(.mv (.tmp (pth 0))), opAt P 44 7 1, (some (pth 29)), none⟩,
⟨(.nc (.tmp (pth 29))), opAt P 44 7 2, (some (pth 30)), none⟩,
⟨(.fa (.tmp (pth 30)) 0), opAt P 44 7 3, (some (pth 31)), none⟩,
⟨(.ld 26 (.tmp (pth 31))), opAt P 44 7 4, (some (pth 32)), none⟩,
⟨(.mv (.tmp (pth 1))), opAt P 44 7 5, (some (pth 33)), none⟩,
⟨.slow, opAt P 44 7 6, (some (pth 34)), none⟩,
⟨(.nc (.tmp (pth 28))), opAt P 44 7 7, (some (pth 35)), none⟩,
⟨(.fa (.tmp (pth 35)) 0), opAt P 44 7 8, (some (pth 36)), none⟩,
⟨(.st 26 (.tmp (pth 36)) (.tmp (pth 34))), opAt P 44 7 9, none, none⟩])
(.seq (.seqr [⟨(.mv (.tmp (pth 5))), opAt P 44 8 0, (some (pth 37)), none⟩,
⟨(.mv (.tmp (pth 37))), opAt P 44 8 1, (some (pth 4)), none⟩])
.ret)))))), [.tmp (pth 4)]⟩
theorem cf44_ok : cFn Tryd.prog 44 = some (cf44 Tryd.prog) := by kernel_rfl
def cf45 (P : Program) : FF := ⟨38, (.seq (.seqr [⟨.slow, opAt P 45 0 0, (some (pth 2)), none⟩,
⟨(.mv (.val (.int .i64 (0)))), opAt P 45 0 1, (some (pth 3)), none⟩])
(.seq (.seqr [⟨.slow, opAt P 45 1 0, (some (pth 4)), none⟩])
(.seq (.seqr [⟨.slow, opAt P 45 2 0, (some (pth 5)), none⟩,
⟨(.st 3 (.tmp (pth 5)) (.val (.int .i64 (0)))), opAt P 45 2 1, none, none⟩])
(.seq (.seqr [⟨(.mv (.tmp (pth 0))), opAt P 45 3 0, (some (pth 7)), none⟩,
⟨(.call 25 [(.tmp (pth 7))]), opAt P 45 3 1, (some (pth 8)), none⟩,
⟨(.mv (.tmp (pth 8))), opAt P 45 3 2, (some (pth 6)), none⟩])
(.seq (.seqr [⟨(.mv (.tmp (pth 6))), opAt P 45 4 0, (some (pth 9)), none⟩,
⟨(.fa (.tmp (pth 4)) 0), opAt P 45 4 1, (some (pth 10)), none⟩,
⟨(.fa (.tmp (pth 4)) 1), opAt P 45 4 2, (some (pth 11)), none⟩,
⟨.slow, opAt P 45 4 3, (some (pth 12)), none⟩,
⟨(.call 26 [(.tmp (pth 9)), (.tmp (pth 12))]), opAt P 45 4 4, (some (pth 13)), none⟩])
(.seq (.seq (.seqr [⟨(.ld 3 (.tmp (pth 5))), opAt P 45 5 0, (some (pth 14)), none⟩,
⟨(.bin .gtr (.tmp (pth 14)) (.val (.int .i64 (16)))), opAt P 45 5 1, (some (pth 15)), none⟩])
(.cond (.tmp (pth 15)) (.seq (.seqr [⟨.slow, opAt P 45 6 0, (some (pth 16)), none⟩,
⟨(.st 58 (.tmp (pth 2)) (.tmp (pth 16))), opAt P 45 6 1, none, none⟩,
⟨(.mv (.val (.int .i64 (3)))), opAt P 45 6 2, (some (pth 3)), none⟩])
.ret)
.skip))
(.seq (.seq (.seqr [⟨(.ld 3 (.tmp (pth 5))), opAt P 45 7 0, (some (pth 17)), none⟩,
⟨(.mv (.val (.int .i64 (0)))), opAt P 45 7 1, (some (pth 18)), none⟩])
(.block 0 (.loop (.seq (.seqr [⟨(.bin .lss (.tmp (pth 18)) (.tmp (pth 17))), opAt P 45 8 0, (some (pth 19)), none⟩])
(.seq (.cond (.tmp (pth 19)) .skip
(.exit 0))
(.seq (.block 1 (.reg [⟨(.fa (.tmp (pth 4)) 2), opAt P 45 9 0, (some (pth 20)), none⟩,
⟨(.ld 56 (.tmp (pth 20))), opAt P 45 9 1, (some (pth 21)), none⟩,
⟨(.mv (.tmp (pth 6))), opAt P 45 9 2, (some (pth 22)), none⟩,
⟨(.call 67 [(.tmp (pth 22))]), opAt P 45 9 3, (some (pth 23)), none⟩,
⟨.slow, opAt P 45 9 4, (some (pth 24)), none⟩,
⟨.slow, opAt P 45 9 5, (some (pth 25)), none⟩,
⟨(.fa (.tmp (pth 4)) 2), opAt P 45 9 6, (some (pth 26)), none⟩,
⟨(.st 56 (.tmp (pth 26)) (.tmp (pth 25))), opAt P 45 9 7, none, none⟩] [(1, 3), (1, 4)]))
(.seqr [⟨(.bin .add (.tmp (pth 18)) (.val (.int .i64 (1)))), opAt P 45 10 0, (some (pth 27)), none⟩,
⟨(.mv (.tmp (pth 27))), opAt P 45 10 1, (some (pth 18)), none⟩])))))))
(.seq (.seq (.seqr [⟨(.mv (.tmp (pth 6))), opAt P 45 11 0, (some (pth 28)), none⟩,
⟨(.call 29 [(.tmp (pth 28))]), opAt P 45 11 1, (some (pth 29)), none⟩,
⟨(.un .not (.tmp (pth 29))), opAt P 45 11 2, (some (pth 30)), none⟩,
⟨(.mv (.tmp (pth 30))), opAt P 45 11 3, (some (pth 31)), none⟩,
⟨(.ld 58 (.tmp (pth 4))), opAt P 45 11 4, (some (pth 32)), (some ((pth 31), false))⟩,
⟨(.call 68 [(.tmp (pth 32))]), opAt P 45 11 5, (some (pth 33)), (some ((pth 31), false))⟩,
⟨(.un .not (.tmp (pth 33))), opAt P 45 11 6, (some (pth 34)), (some ((pth 31), false))⟩,
⟨(.pick (.tmp (pth 31)) (.val (.bool true)) (.tmp (pth 34))), opAt P 45 11 7, (some (pth 35)), none⟩])
(.cond (.tmp (pth 35)) (.seq (.seqr [⟨.slow, opAt P 45 12 0, (some (pth 36)), none⟩,
⟨(.st 58 (.tmp (pth 2)) (.tmp (pth 36))), opAt P 45 12 1, none, none⟩,
⟨(.mv (.val (.int .i64 (3)))), opAt P 45 12 2, (some (pth 3)), none⟩])
.ret)
.skip))
(.seq (.seqr [⟨(.ld 58 (.tmp (pth 4))), opAt P 45 13 0, (some (pth 37)), none⟩,
⟨(.st 58 (.tmp (pth 2)) (.tmp (pth 37))), opAt P 45 13 1, none, none⟩,
⟨(.mv (.val (.int .i64 (0)))), opAt P 45 13 2, (some (pth 3)), none⟩])
.ret))))))))), [.cell (pth 2) 58, .tmp (pth 3)]⟩
theorem cf45_ok : cFn Tryd.prog 45 = some (cf45 Tryd.prog) := by kernel_rfl
def cf46 (P : Program) : FF := ⟨29, (.seq (.seqr [⟨.slow, opAt P 46 0 0, (some (pth 2)), none⟩,
⟨(.mv (.val (.int .i64 (0)))), opAt P 46 0 1, (some (pth 3)), none⟩])
(.seq (.seqr [⟨.slow, opAt P 46 1 0, (some (pth 4)), none⟩])
(.seq (.seqr [⟨(.mv (.tmp (pth 0))), opAt P 46 2 0, (some (pth 6)), none⟩,
⟨(.call 25 [(.tmp (pth 6))]), opAt P 46 2 1, (some (pth 7)), none⟩,
⟨(.mv (.tmp (pth 7))), opAt P 46 2 2, (some (pth 5)), none⟩])
(.seq (.seqr [⟨(.mv (.tmp (pth 5))), opAt P 46 3 0, (some (pth 8)), none⟩,
⟨(.fa (.tmp (pth 4)) 0), opAt P 46 3 1, (some (pth 9)), none⟩,
⟨(.fa (.tmp (pth 4)) 1), opAt P 46 3 2, (some (pth 10)), none⟩,
⟨(.fa (.tmp (pth 4)) 2), opAt P 46 3 3, (some (pth 11)), none⟩,
⟨(.fa (.tmp (pth 4)) 3), opAt P 46 3 4, (some (pth 12)), none⟩,
⟨.slow, opAt P 46 3 5, (some (pth 13)), none⟩,
⟨(.call 26 [(.tmp (pth 8)), (.tmp (pth 13))]), opAt P 46 3 6, (some (pth 14)), none⟩])
(.seq (.seqr [⟨(.mv (.tmp (pth 5))), opAt P 46 4 0, (some (pth 15)), none⟩,
⟨(.call 27 [(.tmp (pth 15))]), opAt P 46 4 1, (some (pth 16)), none⟩,
⟨.slow, opAt P 46 4 2, (some (pth 17)), none⟩,
⟨(.fa (.tmp (pth 4)) 4), opAt P 46 4 3, (some (pth 18)), none⟩,
⟨(.st 9 (.tmp (pth 18)) (.tmp (pth 17))), opAt P 46 4 4, none, none⟩])
(.seq (.seq (.seqr [⟨(.mv (.tmp (pth 5))), opAt P 46 5 0, (some (pth 19)), none⟩,
⟨(.call 29 [(.tmp (pth 19))]), opAt P 46 5 1, (some (pth 20)), none⟩,
⟨(.un .not (.tmp (pth 20))), opAt P 46 5 2, (some (pth 21)), none⟩,
⟨(.mv (.tmp (pth 21))), opAt P 46 5 3, (some (pth 22)), none⟩,
⟨(.ld 60 (.tmp (pth 4))), opAt P 46 5 4, (some (pth 23)), (some ((pth 22), false))⟩,
⟨(.call 69 [(.tmp (pth 23))]), opAt P 46 5 5, (some (pth 24)), (some ((pth 22), false))⟩,
⟨(.un .not (.tmp (pth 24))), opAt P 46 5 6, (some (pth 25)), (some ((pth 22), false))⟩,
⟨(.pick (.tmp (pth 22)) (.val (.bool true)) (.tmp (pth 25))), opAt P 46 5 7, (some (pth 26)), none⟩])
(.cond (.tmp (pth 26)) (.seq (.seqr [⟨.slow, opAt P 46 6 0, (some (pth 27)), none⟩,
⟨(.st 60 (.tmp (pth 2)) (.tmp (pth 27))), opAt P 46 6 1, none, none⟩,
⟨(.mv (.val (.int .i64 (3)))), opAt P 46 6 2, (some (pth 3)), none⟩])
.ret)
.skip))
(.seq (.seqr [⟨(.ld 60 (.tmp (pth 4))), opAt P 46 7 0, (some (pth 28)), none⟩,
⟨(.st 60 (.tmp (pth 2)) (.tmp (pth 28))), opAt P 46 7 1, none, none⟩,
⟨(.mv (.val (.int .i64 (0)))), opAt P 46 7 2, (some (pth 3)), none⟩])
.ret))))))), [.cell (pth 2) 60, .tmp (pth 3)]⟩
theorem cf46_ok : cFn Tryd.prog 46 = some (cf46 Tryd.prog) := by kernel_rfl
def cf47 (P : Program) : FF := ⟨61, (.seq (.seqr [⟨.slow, opAt P 47 0 0, (some (pth 2)), none⟩,
⟨(.mv (.val (.int .i64 (0)))), opAt P 47 0 1, (some (pth 3)), none⟩])
(.seq (.seqr [⟨.slow, opAt P 47 1 0, (some (pth 4)), none⟩])
(.seq (.seqr [⟨.slow, opAt P 47 2 0, (some (pth 5)), none⟩,
⟨(.st 3 (.tmp (pth 5)) (.val (.int .i64 (0)))), opAt P 47 2 1, none, none⟩])
(.seq (.seqr [⟨(.mv (.tmp (pth 0))), opAt P 47 3 0, (some (pth 9)), none⟩,
⟨(.call 25 [(.tmp (pth 9))]), opAt P 47 3 1, (some (pth 10)), none⟩,
⟨(.mv (.tmp (pth 10))), opAt P 47 3 2, (some (pth 6)), none⟩])
(.seq (.seqr [⟨(.mv (.tmp (pth 6))), opAt P 47 4 0, (some (pth 11)), none⟩,
⟨(.fa (.tmp (pth 4)) 0), opAt P 47 4 1, (some (pth 12)), none⟩,
⟨(.fa (.tmp (pth 4)) 1), opAt P 47 4 2, (some (pth 13)), none⟩,
⟨(.fa (.tmp (pth 4)) 2), opAt P 47 4 3, (some (pth 14)), none⟩,
⟨.slow, opAt P 47 4 4, (some (pth 15)), none⟩,
⟨(.call 26 [(.tmp (pth 11)), (.tmp (pth 15))]), opAt P 47 4 5, (some (pth 16)), none⟩])
(.seq (.seq (.seqr [⟨(.fa (.tmp (pth 4)) 3), opAt P 47 5 0, (some (pth 17)), none⟩,
⟨(.fa (.tmp (pth 17)) 0), opAt P 47 5 1, (some (pth 18)), none⟩,
⟨(.fa (.tmp (pth 4)) 3), opAt P 47 5 2, (some (pth 19)), none⟩,
⟨(.fa (.tmp (pth 19)) 1), opAt P 47 5 3, (some (pth 20)), none⟩,
⟨(.fa (.tmp (pth 4)) 5), opAt P 47 5 4, (some (pth 21)), none⟩,
⟨(.fa (.tmp (pth 21)) 0), opAt P 47 5 5, (some (pth 22)), none⟩,
⟨(.fa (.tmp (pth 4)) 5), opAt P 47 5 6, (some (pth 23)), none⟩,
⟨(.fa (.tmp (pth 23)) 1), opAt P 47 5 7, (some (pth 24)), none⟩,
⟨.slow, opAt P 47 5 8, (some (pth 25)), none⟩,
⟨.slow, opAt P 47 5 9, (some (pth 26)), none⟩,
⟨(.mv (.val (.int .i64 (0)))), opAt P 47 5 10, (some (pth 27)), none⟩])
(.block 0 (.loop (.seq (.seqr [⟨(.bin .lss (.tmp (pth 27)) (.tmp (pth 26))), opAt P 47 6 0, (some (pth 28)), none⟩])
(.seq (.cond (.tmp (pth 28)) .skip
(.exit 0))
(.seq (.block 1 (.seq (.seqr [⟨(.ia (.tmp (pth 25)) (.tmp (pth 27)) 1), opAt P 47 7 0, (some (pth 29)), none⟩,
⟨(.ld 131 (.tmp (pth 29))), opAt P 47 7 1, (some (pth 30)), none⟩,
⟨(.mv (.tmp (pth 30))), opAt P 47 7 2, (some (pth 8)), none⟩])
(.seqr [⟨(.mv (.tmp (pth 8))), opAt P 47 8 0, (some (pth 31)), none⟩,
⟨(.mv (.tmp (pth 6))), opAt P 47 8 1, (some (pth 32)), none⟩,
⟨(.call 27 [(.tmp (pth 32))]), opAt P 47 8 2, (some (pth 33)), none⟩,
⟨.slow, opAt P 47 8 3, (some (pth 34)), none⟩,
⟨(.nc (.tmp (pth 31))), opAt P 47 8 4, (some (pth 35)), none⟩,
⟨(.st 9 (.tmp (pth 35)) (.tmp (pth 34))), opAt P 47 8 5, none, none⟩])))
(.seqr [⟨(.bin .add (.tmp (pth 27)) (.val (.int .i64 (1)))), opAt P 47 9 0, (some (pth 36)), none⟩,
⟨(.mv (.tmp (pth 36))), opAt P 47 9 1, (some (pth 27)), none⟩])))))))
(.seq (.seqr [⟨(.mv (.tmp (pth 6))), opAt P 47 10 0, (some (pth 37)), none⟩,
⟨(.fa (.tmp (pth 4)) 7), opAt P 47 10 1, (some (pth 38)), none⟩,
⟨(.fa (.tmp (pth 4)) 8), opAt P 47 10 2, (some (pth 39)), none⟩,
⟨(.fa (.tmp (pth 4)) 9), opAt P 47 10 3, (some (pth 40)), none⟩,
⟨(.fa (.tmp (pth 4)) 11), opAt P 47 10 4, (some (pth 41)), none⟩,
⟨.slow, opAt P 47 10 5, (some (pth 42)), none⟩,
⟨(.call 26 [(.tmp (pth 37)), (.tmp (pth 42))]), opAt P 47 10 6, (some (pth 43)), none⟩])
(.seq (.seqr [⟨(.ld 3 (.tmp (pth 5))), opAt P 47 11 0, (some (pth 44)), none⟩,
⟨(.bin .eql (.tmp (pth 44)) (.val (.int .i64 (1)))), opAt P 47 11 1, (some (pth 45)), none⟩,
⟨(.fa (.tmp (pth 4)) 10), opAt P 47 11 2, (some (pth 46)), none⟩,
⟨(.st 4 (.tmp (pth 46)) (.tmp (pth 45))), opAt P 47 11 3, none, none⟩])
(.seq (.seq (.seqr [⟨(.mv (.tmp (pth 6))), opAt P 47 12 0, (some (pth 47)), none⟩,
⟨(.call 29 [(.tmp (pth 47))]), opAt P 47 12 1, (some (pth 48)), none⟩,
⟨(.un .not (.tmp (pth 48))), opAt P 47 12 2, (some (pth 49)), none⟩,
⟨(.mv (.tmp (pth 49))), opAt P 47 12 3, (some (pth 50)), none⟩,
⟨(.ld 3 (.tmp (pth 5))), opAt P 47 12 4, (some (pth 51)), (some ((pth 50), false))⟩,
⟨(.bin .gtr (.tmp (pth 51)) (.val (.int .i64 (1)))), opAt P 47 12 5, (some (pth 52)), (some ((pth 50), false))⟩,
⟨(.pick (.tmp (pth 50)) (.val (.bool true)) (.tmp (pth 52))), opAt P 47 12 6, (some (pth 53)), none⟩,
⟨(.mv (.tmp (pth 53))), opAt P 47 12 7, (some (pth 54)), none⟩,
⟨(.ld 25 (.tmp (pth 4))), opAt P 47 12 8, (some (pth 55)), (some ((pth 54), false))⟩,
⟨(.call 11 [(.tmp (pth 55))]), opAt P 47 12 9, (some (pth 56)), (some ((pth 54), false))⟩,
⟨(.un .not (.tmp (pth 56))), opAt P 47 12 10, (some (pth 57)), (some ((pth 54), false))⟩,
⟨(.pick (.tmp (pth 54)) (.val (.bool true)) (.tmp (pth 57))), opAt P 47 12 11, (some (pth 58)), none⟩])
(.cond (.tmp (pth 58)) (.seq (.seqr [⟨.slow, opAt P 47 13 0, (some (pth 59)), none⟩,
⟨(.st 25 (.tmp (pth 2)) (.tmp (pth 59))), opAt P 47 13 1, none, none⟩,
⟨(.mv (.val (.int .i64 (3)))), opAt P 47 13 2, (some (pth 3)), none⟩])
.ret)
.skip))
(.seq (.seqr [⟨(.ld 25 (.tmp (pth 4))), opAt P 47 14 0, (some (pth 60)), none⟩,
⟨(.st 25 (.tmp (pth 2)) (.tmp (pth 60))), opAt P 47 14 1, none, none⟩,
⟨(.mv (.val (.int .i64 (0)))), opAt P 47 14 2, (some (pth 3)), none⟩])
.ret)))))))))), [.cell (pth 2) 25, .tmp (pth 3)]⟩
theorem cf47_ok : cFn Tryd.prog 47 = some (cf47 Tryd.prog) := by kernel_rfl
def cf48 (P : Program) : FF := ⟨34, (.seq (.seqr [⟨.slow, opAt P 48 0 0, (some (pth 2)), none⟩,
⟨(.mv (.val (.int .i64 (0)))), opAt P 48 0 1, (some (pth 3)), none⟩])
(.seq (.seqr [⟨.slow, opAt P 48 1 0, (some (pth 4)), none⟩])
(.seq (.seqr [⟨(.mv (.tmp (pth 0))), opAt P 48 2 0, (some (pth 7)), none⟩,
⟨(.call 25 [(.tmp (pth 7))]), opAt P 48 2 1, (some (pth 8)), none⟩,
⟨(.mv (.tmp (pth 8))), opAt P 48 2 2, (some (pth 5)), none⟩])
(.seq (.seqr [⟨(.mv (.tmp (pth 5))), opAt P 48 3 0, (some (pth 9)), none⟩,
⟨(.call 43 [(.tmp (pth 9))]), opAt P 48 3 1, (some (pth 10)), none⟩,
⟨(.mv (.tmp (pth 5))), opAt P 48 3 2, (some (pth 11)), none⟩,
⟨(.call 43 [(.tmp (pth 11))]), opAt P 48 3 3, (some (pth 12)), none⟩,
⟨(.fa (.tmp (pth 4)) 0), opAt P 48 3 4, (some (pth 13)), none⟩,
⟨(.st 32 (.tmp (pth 13)) (.tmp (pth 10))), opAt P 48 3 5, none, none⟩,
⟨(.fa (.tmp (pth 4)) 1), opAt P 48 3 6, (some (pth 14)), none⟩,
⟨(.st 3 (.tmp (pth 14)) (.tmp (pth 12))), opAt P 48 3 7, none, none⟩])
(.seq (.seq (.seqr [⟨(.mv (.val (.int .i64 (0)))), opAt P 48 4 0, (some (pth 15)), none⟩])
(.block 0 (.loop (.seq (.seqr [⟨(.bin .lss (.tmp (pth 15)) (.val (.int .i64 (4)))), opAt P 48 5 0, (some (pth 16)), none⟩])
(.seq (.cond (.tmp (pth 16)) .skip
(.exit 0))
(.seq (.block 1 (.seq (.seqr [⟨(.mv (.tmp (pth 15))), opAt P 48 6 0, (some (pth 17)), none⟩,
⟨(.mv (.tmp (pth 17))), opAt P 48 6 1, (some (pth 6)), none⟩])
(.seqr [⟨(.mv (.tmp (pth 6))), opAt P 48 7 0, (some (pth 18)), none⟩,
⟨(.mv (.tmp (pth 5))), opAt P 48 7 1, (some (pth 19)), none⟩,
⟨(.call 43 [(.tmp (pth 19))]), opAt P 48 7 2, (some (pth 20)), none⟩,
⟨(.fa (.tmp (pth 4)) 2), opAt P 48 7 3, (some (pth 21)), none⟩,
⟨.slow, opAt P 48 7 4, (some (pth 22)), none⟩,
⟨(.st 3 (.tmp (pth 22)) (.tmp (pth 20))), opAt P 48 7 5, none, none⟩])))
(.seqr [⟨(.bin .add (.tmp (pth 15)) (.val (.int .i64 (1)))), opAt P 48 8 0, (some (pth 23)), none⟩,
⟨(.mv (.tmp (pth 23))), opAt P 48 8 1, (some (pth 15)), none⟩])))))))
(.seq (.seq (.seqr [⟨(.mv (.tmp (pth 5))), opAt P 48 9 0, (some (pth 24)), none⟩,
⟨(.call 29 [(.tmp (pth 24))]), opAt P 48 9 1, (some (pth 25)), none⟩,
⟨(.un .not (.tmp (pth 25))), opAt P 48 9 2, (some (pth 26)), none⟩,
⟨(.mv (.tmp (pth 26))), opAt P 48 9 3, (some (pth 27)), none⟩,
⟨(.ld 55 (.tmp (pth 4))), opAt P 48 9 4, (some (pth 28)), (some ((pth 27), false))⟩,
⟨(.call 70 [(.tmp (pth 28))]), opAt P 48 9 5, (some (pth 29)), (some ((pth 27), false))⟩,
⟨(.un .not (.tmp (pth 29))), opAt P 48 9 6, (some (pth 30)), (some ((pth 27), false))⟩,
⟨(.pick (.tmp (pth 27)) (.val (.bool true)) (.tmp (pth 30))), opAt P 48 9 7, (some (pth 31)), none⟩])
(.cond (.tmp (pth 31)) (.seq (.seqr [⟨.slow, opAt P 48 10 0, (some (pth 32)), none⟩,
⟨(.st 55 (.tmp (pth 2)) (.tmp (pth 32))), opAt P 48 10 1, none, none⟩,
⟨(.mv (.val (.int .i64 (3)))), opAt P 48 10 2, (some (pth 3)), none⟩])
.ret)
.skip))
(.seq (.seqr [⟨(.ld 55 (.tmp (pth 4))), opAt P 48 11 0, (some (pth 33)), none⟩,
⟨(.st 55 (.tmp (pth 2)) (.tmp (pth 33))), opAt P 48 11 1, none, none⟩,
⟨(.mv (.val (.int .i64 (0)))), opAt P 48 11 2, (some (pth 3)), none⟩])
.ret))))))), [.cell (pth 2) 55, .tmp (pth 3)]⟩
theorem cf48_ok : cFn Tryd.prog 48 = some (cf48 Tryd.prog) := by kernel_rfl
def cf49 (P : Program) : FF := ⟨10, (.seq (.seq (.seqr [⟨(.mv (.tmp (pth 0))), opAt P 49 0 0, (some (pth 2)), none⟩,
⟨(.bin .eql (.tmp (pth 2)) (.val (.pointer none))), opAt P 49 0 1, (some (pth 3)), none⟩])
(.cond (.tmp (pth 3)) .ret
.skip))
(.seqr [⟨(.mv (.tmp (pth 0))), opAt P 49 1 0, (some (pth 4)), none⟩,
⟨(.mv (.tmp (pth 0))), opAt P 49 1 1, (some (pth 5)), none⟩,
⟨(.nc (.tmp (pth 4))), opAt P 49 1 2, (some (pth 6)), none⟩,
⟨(.fa (.tmp (pth 6)) 0), opAt P 49 1 3, (some (pth 7)), none⟩,
⟨(.st 26 (.tmp (pth 7)) (.val (.slice none 0 0))), opAt P 49 1 4, none, none⟩,
⟨(.nc (.tmp (pth 5))), opAt P 49 1 5, (some (pth 8)), none⟩,
⟨(.fa (.tmp (pth 8)) 1), opAt P 49 1 6, (some (pth 9)), none⟩,
⟨(.st 4 (.tmp (pth 9)) (.val (.bool true))), opAt P 49 1 7, none, none⟩])), []⟩
theorem cf49_ok : cFn Tryd.prog 49 = some (cf49 Tryd.prog) := by kernel_rfl
def cf50 (P : Program) : FF := ⟨12, (.seq (.seqr [⟨(.mv (.val (.bool false))), opAt P 50 0 0, (some (pth 2)), none⟩])
(.seq (.seqr [⟨(.mv (.tmp (pth 0))), opAt P 50 1 0, (some (pth 3)), none⟩,
⟨(.bin .neq (.tmp (pth 3)) (.val (.pointer none))), opAt P 50 1 1, (some (pth 4)), none⟩,
⟨(.mv (.tmp (pth 4))), opAt P 50 1 2, (some (pth 5)), none⟩,
⟨(.mv (.tmp (pth 0))), opAt P 50 1 3, (some (pth 6)), (some ((pth 5), true))⟩,
⟨(.nc (.tmp (pth 6))), opAt P 50 1 4, (some (pth 7)), (some ((pth 5), true))⟩,
⟨(.fa (.tmp (pth 7)) 1), opAt P 50 1 5, (some (pth 8)), (some ((pth 5), true))⟩,
⟨(.ld 4 (.tmp (pth 8))), opAt P 50 1 6, (some (pth 9)), (some ((pth 5), true))⟩,
⟨(.un .not (.tmp (pth 9))), opAt P 50 1 7, (some (pth 10)), (some ((pth 5), true))⟩,
⟨(.pick (.tmp (pth 5)) (.tmp (pth 10)) (.val (.bool false))), opAt P 50 1 8, (some (pth 11)), none⟩,
⟨(.mv (.tmp (pth 11))), opAt P 50 1 9, (some (pth 2)), none⟩])
.ret)), [.tmp (pth 2)]⟩
theorem cf50_ok : cFn Tryd.prog 50 = some (cf50 Tryd.prog) := by kernel_rfl
def cf51 (P : Program) : FF := ⟨14, (.seq (.seqr [⟨(.mv (.val (.bool false))), opAt P 51 0 0, (some (pth 4)), none⟩])
(.seq (.seqr [⟨(.mv (.tmp (pth 0))), opAt P 51 1 0, (some (pth 5)), none⟩,
⟨.slow, opAt P 51 1 1, (some (pth 6)), none⟩,
⟨(.bin .geq (.tmp (pth 6)) (.val (.int .i64 (1)))), opAt P 51 1 2, (some (pth 7)), none⟩,
⟨(.mv (.tmp (pth 7))), opAt P 51 1 3, (some (pth 8)), none⟩,
⟨(.mv (.tmp (pth 0))), opAt P 51 1 4, (some (pth 9)), (some ((pth 8), true))⟩,
⟨.slow, opAt P 51 1 5, (some (pth 10)), (some ((pth 8), true))⟩,
⟨(.mv (.tmp (pth 1))), opAt P 51 1 6, (some (pth 11)), (some ((pth 8), true))⟩,
⟨(.bin .leq (.tmp (pth 10)) (.tmp (pth 11))), opAt P 51 1 7, (some (pth 12)), (some ((pth 8), true))⟩,
⟨(.pick (.tmp (pth 8)) (.tmp (pth 12)) (.val (.bool false))), opAt P 51 1 8, (some (pth 13)), none⟩,
⟨(.mv (.tmp (pth 13))), opAt P 51 1 9, (some (pth 4)), none⟩])
.ret)), [.tmp (pth 4)]⟩
theorem cf51_ok : cFn Tryd.prog 51 = some (cf51 Tryd.prog) := by kernel_rfl
def cf52 (P : Program) : FF := ⟨9, (.seq (.seqr [⟨(.mv (.val (.bool false))), opAt P 52 0 0, (some (pth 2)), none⟩])
(.seq (.seqr [⟨(.mv (.tmp (pth 0))), opAt P 52 1 0, (some (pth 3)), none⟩,
⟨(.bin .geq (.tmp (pth 3)) (.val (.int .i64 (0)))), opAt P 52 1 1, (some (pth 4)), none⟩,
⟨(.mv (.tmp (pth 4))), opAt P 52 1 2, (some (pth 5)), none⟩,
⟨(.mv (.tmp (pth 0))), opAt P 52 1 3, (some (pth 6)), (some ((pth 5), true))⟩,
⟨(.bin .leq (.tmp (pth 6)) (.val (.int .i64 (1099511627776)))), opAt P 52 1 4, (some (pth 7)), (some ((pth 5), true))⟩,
⟨(.pick (.tmp (pth 5)) (.tmp (pth 7)) (.val (.bool false))), opAt P 52 1 5, (some (pth 8)), none⟩,
⟨(.mv (.tmp (pth 8))), opAt P 52 1 6, (some (pth 2)), none⟩])
.ret)), [.tmp (pth 2)]⟩
theorem cf52_ok : cFn Tryd.prog 52 = some (cf52 Tryd.prog) := by kernel_rfl
def cf53 (P : Program) : FF := ⟨22, (.seq (.seqr [⟨.slow, opAt P 53 0 0, (some (pth 1)), none⟩,
⟨(.mv (.val (.bool false))), opAt P 53 0 1, (some (pth 2)), none⟩])
(.seq (.seq (.seqr [⟨(.fa (.tmp (pth 1)) 2), opAt P 53 1 0, (some (pth 5)), none⟩,
⟨(.ld 56 (.tmp (pth 5))), opAt P 53 1 1, (some (pth 6)), none⟩,
⟨.slow, opAt P 53 1 2, (some (pth 7)), none⟩,
⟨(.bin .gtr (.tmp (pth 7)) (.val (.int .i64 (16)))), opAt P 53 1 3, (some (pth 8)), none⟩])
(.cond (.tmp (pth 8)) (.seq (.seqr [⟨(.mv (.val (.bool false))), opAt P 53 2 0, (some (pth 2)), none⟩])
.ret)
.skip))
(.seq (.seqr [⟨(.ld 58 (.tmp (pth 1))), opAt P 53 3 0, (some (pth 10)), none⟩,
⟨(.call 71 [(.tmp (pth 10))]), opAt P 53 3 1, (some (pth 11)), none⟩,
⟨(.call 45 [(.tmp (pth 11))]), opAt P 53 3 2, (some (pth 12)), none⟩,
⟨(.mv (.tmp (pth 12))), opAt P 53 3 3, (some (pth 9)), none⟩,
⟨(.ext (.tmp (pth 9)) 0), opAt P 53 3 4, (some (pth 13)), none⟩,
⟨(.ext (.tmp (pth 9)) 1), opAt P 53 3 5, (some (pth 14)), none⟩,
⟨.slow, opAt P 53 3 6, (some (pth 3)), none⟩,
⟨(.st 58 (.tmp (pth 3)) (.tmp (pth 13))), opAt P 53 3 7, none, none⟩,
⟨(.mv (.tmp (pth 14))), opAt P 53 3 8, (some (pth 4)), none⟩])
(.seq (.seqr [⟨(.mv (.tmp (pth 4))), opAt P 53 4 0, (some (pth 15)), none⟩,
⟨(.bin .eql (.tmp (pth 15)) (.val (.int .i64 (0)))), opAt P 53 4 1, (some (pth 16)), none⟩,
⟨(.mv (.tmp (pth 16))), opAt P 53 4 2, (some (pth 17)), none⟩,
⟨(.ld 58 (.tmp (pth 1))), opAt P 53 4 3, (some (pth 18)), (some ((pth 17), true))⟩,
⟨(.ld 58 (.tmp (pth 3))), opAt P 53 4 4, (some (pth 19)), (some ((pth 17), true))⟩,
⟨(.call 72 [(.tmp (pth 18)), (.tmp (pth 19))]), opAt P 53 4 5, (some (pth 20)), (some ((pth 17), true))⟩,
⟨(.pick (.tmp (pth 17)) (.tmp (pth 20)) (.val (.bool false))), opAt P 53 4 6, (some (pth 21)), none⟩,
⟨(.mv (.tmp (pth 21))), opAt P 53 4 7, (some (pth 2)), none⟩])
.ret)))), [.tmp (pth 2)]⟩
theorem cf53_ok : cFn Tryd.prog 53 = some (cf53 Tryd.prog) := by kernel_rfl
def cf54 (P : Program) : FF := ⟨24, (.seq (.seqr [⟨.slow, opAt P 54 0 0, (some (pth 1)), none⟩,
⟨(.mv (.val (.slice none 0 0))), opAt P 54 0 1, (some (pth 2)), none⟩,
⟨(.mv (.val (.int .i64 (0)))), opAt P 54 0 2, (some (pth 3)), none⟩])
(.seq (.seq (.seqr [⟨(.ld 60 (.tmp (pth 1))), opAt P 54 1 0, (some (pth 5)), none⟩,
⟨(.call 69 [(.tmp (pth 5))]), opAt P 54 1 1, (some (pth 6)), none⟩,
⟨(.un .not (.tmp (pth 6))), opAt P 54 1 2, (some (pth 7)), none⟩])
(.cond (.tmp (pth 7)) (.seq (.seqr [⟨(.mv (.val (.slice none 0 0))), opAt P 54 2 0, (some (pth 2)), none⟩,
⟨(.mv (.val (.int .i64 (1)))), opAt P 54 2 1, (some (pth 3)), none⟩])
.ret)
.skip))
(.seq (.seqr [⟨.slow, opAt P 54 3 0, (some (pth 4)), none⟩])
(.seq (.seqr [⟨(.fa (.tmp (pth 1)) 0), opAt P 54 4 0, (some (pth 8)), none⟩,
⟨(.ld 3 (.tmp (pth 8))), opAt P 54 4 1, (some (pth 9)), none⟩,
⟨(.fa (.tmp (pth 1)) 1), opAt P 54 4 2, (some (pth 10)), none⟩,
⟨(.ld 3 (.tmp (pth 10))), opAt P 54 4 3, (some (pth 11)), none⟩,
⟨(.fa (.tmp (pth 1)) 2), opAt P 54 4 4, (some (pth 12)), none⟩,
⟨(.ld 3 (.tmp (pth 12))), opAt P 54 4 5, (some (pth 13)), none⟩,
⟨(.fa (.tmp (pth 1)) 3), opAt P 54 4 6, (some (pth 14)), none⟩,
⟨(.ld 3 (.tmp (pth 14))), opAt P 54 4 7, (some (pth 15)), none⟩,
⟨.slow, opAt P 54 4 8, (some (pth 16)), none⟩,
⟨(.call 36 [(.tmp (pth 4)), (.tmp (pth 16))]), opAt P 54 4 9, (some (pth 17)), none⟩])
(.seq (.seqr [⟨(.fa (.tmp (pth 1)) 4), opAt P 54 5 0, (some (pth 18)), none⟩,
⟨(.ld 9 (.tmp (pth 18))), opAt P 54 5 1, (some (pth 19)), none⟩,
⟨.slow, opAt P 54 5 2, (some (pth 20)), none⟩,
⟨.slow, opAt P 54 5 3, (some (pth 21)), none⟩,
⟨(.call 37 [(.tmp (pth 4)), (.tmp (pth 21))]), opAt P 54 5 4, (some (pth 22)), none⟩])
(.seq (.seqr [⟨(.call 40 [(.tmp (pth 4))]), opAt P 54 6 0, (some (pth 23)), none⟩,
⟨(.mv (.tmp (pth 23))), opAt P 54 6 1, (some (pth 2)), none⟩,
⟨(.mv (.val (.int .i64 (0)))), opAt P 54 6 2, (some (pth 3)), none⟩])
.ret)))))), [.tmp (pth 2), .tmp (pth 3)]⟩
theorem cf54_ok : cFn Tryd.prog 54 = some (cf54 Tryd.prog) := by kernel_rfl
def cf55 (P : Program) : FF := ⟨86, (.seq (.seqr [⟨.slow, opAt P 55 0 0, (some (pth 1)), none⟩,
⟨(.mv (.val (.bool false))), opAt P 55 0 1, (some (pth 2)), none⟩])
(.seq (.seq (.seqr [⟨(.fa (.tmp (pth 1)) 10), opAt P 55 1 0, (some (pth 5)), none⟩,
⟨(.ld 25 (.tmp (pth 5))), opAt P 55 1 1, (some (pth 6)), none⟩,
⟨(.fa (.tmp (pth 1)) 10), opAt P 55 1 2, (some (pth 7)), none⟩,
⟨(.fa (.tmp (pth 7)) 0), opAt P 55 1 3, (some (pth 8)), none⟩,
⟨(.ld 3 (.tmp (pth 8))), opAt P 55 1 4, (some (pth 9)), none⟩,
⟨(.fa (.tmp (pth 1)) 10), opAt P 55 1 5, (some (pth 10)), none⟩,
⟨(.fa (.tmp (pth 10)) 1), opAt P 55 1 6, (some (pth 11)), none⟩,
⟨(.ld 3 (.tmp (pth 11))), opAt P 55 1 7, (some (pth 12)), none⟩,
⟨(.fa (.tmp (pth 1)) 10), opAt P 55 1 8, (some (pth 13)), none⟩,
⟨(.fa (.tmp (pth 13)) 2), opAt P 55 1 9, (some (pth 14)), none⟩,
⟨(.ld 3 (.tmp (pth 14))), opAt P 55 1 10, (some (pth 15)), none⟩,
⟨.slow, opAt P 55 1 11, (some (pth 16)), none⟩,
⟨(.bin .neq (.tmp (pth 6)) (.tmp (pth 16))), opAt P 55 1 12, (some (pth 17)), none⟩])
(.cond (.tmp (pth 17)) (.seq (.seqr [⟨(.mv (.val (.bool false))), opAt P 55 2 0, (some (pth 2)), none⟩])
.ret)
.skip))
(.seq (.seq (.seqr [⟨(.fa (.tmp (pth 1)) 10), opAt P 55 3 0, (some (pth 18)), none⟩,
⟨(.fa (.tmp (pth 18)) 0), opAt P 55 3 1, (some (pth 19)), none⟩,
⟨(.ld 3 (.tmp (pth 19))), opAt P 55 3 2, (some (pth 20)), none⟩,
⟨(.bin .lss (.tmp (pth 20)) (.val (.int .i64 (1)))), opAt P 55 3 3, (some (pth 21)), none⟩,
⟨(.mv (.tmp (pth 21))), opAt P 55 3 4, (some (pth 22)), none⟩,
⟨(.fa (.tmp (pth 1)) 10), opAt P 55 3 5, (some (pth 23)), (some ((pth 22), false))⟩,
⟨(.fa (.tmp (pth 23)) 0), opAt P 55 3 6, (some (pth 24)), (some ((pth 22), false))⟩,
⟨(.ld 3 (.tmp (pth 24))), opAt P 55 3 7, (some (pth 25)), (some ((pth 22), false))⟩,
⟨(.bin .gtr (.tmp (pth 25)) (.val (.int .i64 (7)))), opAt P 55 3 8, (some (pth 26)), (some ((pth 22), false))⟩,
⟨(.pick (.tmp (pth 22)) (.val (.bool true)) (.tmp (pth 26))), opAt P 55 3 9, (some (pth 27)), none⟩,
⟨(.mv (.tmp (pth 27))), opAt P 55 3 10, (some (pth 28)), none⟩,
⟨(.fa (.tmp (pth 1)) 10), opAt P 55 3 11, (some (pth 29)), (some ((pth 28), false))⟩,
⟨(.fa (.tmp (pth 29)) 1), opAt P 55 3 12, (some (pth 30)), (some ((pth 28), false))⟩,
⟨(.ld 3 (.tmp (pth 30))), opAt P 55 3 13, (some (pth 31)), (some ((pth 28), false))⟩,
⟨(.bin .lss (.tmp (pth 31)) (.val (.int .i64 (1)))), opAt P 55 3 14, (some (pth 32)), (some ((pth 28), false))⟩,
⟨(.pick (.tmp (pth 28)) (.val (.bool true)) (.tmp (pth 32))), opAt P 55 3 15, (some (pth 33)), none⟩,
⟨(.mv (.tmp (pth 33))), opAt P 55 3 16, (some (pth 34)), none⟩,
⟨(.fa (.tmp (pth 1)) 10), opAt P 55 3 17, (some (pth 35)), (some ((pth 34), false))⟩,
⟨(.fa (.tmp (pth 35)) 1), opAt P 55 3 18, (some (pth 36)), (some ((pth 34), false))⟩,
⟨(.ld 3 (.tmp (pth 36))), opAt P 55 3 19, (some (pth 37)), (some ((pth 34), false))⟩,
⟨(.bin .gtr (.tmp (pth 37)) (.val (.int .i64 (1048576)))), opAt P 55 3 20, (some (pth 38)), (some ((pth 34), false))⟩,
⟨(.pick (.tmp (pth 34)) (.val (.bool true)) (.tmp (pth 38))), opAt P 55 3 21, (some (pth 39)), none⟩,
⟨(.mv (.tmp (pth 39))), opAt P 55 3 22, (some (pth 40)), none⟩,
⟨(.fa (.tmp (pth 1)) 10), opAt P 55 3 23, (some (pth 41)), (some ((pth 40), false))⟩,
⟨(.fa (.tmp (pth 41)) 2), opAt P 55 3 24, (some (pth 42)), (some ((pth 40), false))⟩,
⟨(.ld 3 (.tmp (pth 42))), opAt P 55 3 25, (some (pth 43)), (some ((pth 40), false))⟩,
⟨(.bin .lss (.tmp (pth 43)) (.val (.int .i64 (1)))), opAt P 55 3 26, (some (pth 44)), (some ((pth 40), false))⟩,
⟨(.pick (.tmp (pth 40)) (.val (.bool true)) (.tmp (pth 44))), opAt P 55 3 27, (some (pth 45)), none⟩,
⟨(.mv (.tmp (pth 45))), opAt P 55 3 28, (some (pth 46)), none⟩,
⟨(.fa (.tmp (pth 1)) 10), opAt P 55 3 29, (some (pth 47)), (some ((pth 46), false))⟩,
⟨(.fa (.tmp (pth 47)) 2), opAt P 55 3 30, (some (pth 48)), (some ((pth 46), false))⟩,
⟨(.ld 3 (.tmp (pth 48))), opAt P 55 3 31, (some (pth 49)), (some ((pth 46), false))⟩,
⟨(.call 52 [(.tmp (pth 49))]), opAt P 55 3 32, (some (pth 50)), (some ((pth 46), false))⟩,
⟨(.un .not (.tmp (pth 50))), opAt P 55 3 33, (some (pth 51)), (some ((pth 46), false))⟩,
⟨(.pick (.tmp (pth 46)) (.val (.bool true)) (.tmp (pth 51))), opAt P 55 3 34, (some (pth 52)), none⟩])
(.cond (.tmp (pth 52)) (.seq (.seqr [⟨(.mv (.val (.bool false))), opAt P 55 4 0, (some (pth 2)), none⟩])
.ret)
.skip))
(.seq (.seq (.seqr [⟨(.fa (.tmp (pth 1)) 7), opAt P 55 5 0, (some (pth 53)), none⟩,
⟨(.ld 32 (.tmp (pth 53))), opAt P 55 5 1, (some (pth 54)), none⟩,
⟨(.bin .lss (.tmp (pth 54)) (.val (.int .i64 (0)))), opAt P 55 5 2, (some (pth 55)), none⟩,
⟨(.mv (.tmp (pth 55))), opAt P 55 5 3, (some (pth 56)), none⟩,
⟨(.fa (.tmp (pth 1)) 7), opAt P 55 5 4, (some (pth 57)), (some ((pth 56), false))⟩,
⟨(.ld 32 (.tmp (pth 57))), opAt P 55 5 5, (some (pth 58)), (some ((pth 56), false))⟩,
⟨(.bin .gtr (.tmp (pth 58)) (.val (.int .i64 (19)))), opAt P 55 5 6, (some (pth 59)), (some ((pth 56), false))⟩,
⟨(.pick (.tmp (pth 56)) (.val (.bool true)) (.tmp (pth 59))), opAt P 55 5 7, (some (pth 60)), none⟩,
⟨(.mv (.tmp (pth 60))), opAt P 55 5 8, (some (pth 61)), none⟩,
⟨(.fa (.tmp (pth 1)) 6), opAt P 55 5 9, (some (pth 62)), (some ((pth 61), false))⟩,
⟨(.ld 3 (.tmp (pth 62))), opAt P 55 5 10, (some (pth 63)), (some ((pth 61), false))⟩,
⟨(.call 52 [(.tmp (pth 63))]), opAt P 55 5 11, (some (pth 64)), (some ((pth 61), false))⟩,
⟨(.un .not (.tmp (pth 64))), opAt P 55 5 12, (some (pth 65)), (some ((pth 61), false))⟩,
⟨(.pick (.tmp (pth 61)) (.val (.bool true)) (.tmp (pth 65))), opAt P 55 5 13, (some (pth 66)), none⟩,
⟨(.mv (.tmp (pth 66))), opAt P 55 5 14, (some (pth 67)), none⟩,
⟨(.fa (.tmp (pth 1)) 7), opAt P 55 5 15, (some (pth 68)), (some ((pth 67), false))⟩,
⟨(.ld 32 (.tmp (pth 68))), opAt P 55 5 16, (some (pth 69)), (some ((pth 67), false))⟩,
⟨(.bin .neq (.tmp (pth 69)) (.val (.int .i64 (0)))), opAt P 55 5 17, (some (pth 70)), (some ((pth 67), false))⟩,
⟨(.mv (.tmp (pth 70))), opAt P 55 5 18, (some (pth 71)), (some ((pth 67), false))⟩,
⟨(.fa (.tmp (pth 1)) 22), opAt P 55 5 19, (some (pth 72)), (some ((pth 71), true))⟩,
⟨(.ld 55 (.tmp (pth 72))), opAt P 55 5 20, (some (pth 73)), (some ((pth 71), true))⟩,
⟨.slow, opAt P 55 5 21, (some (pth 74)), (some ((pth 71), true))⟩,
⟨(.bin .neq (.tmp (pth 73)) (.tmp (pth 74))), opAt P 55 5 22, (some (pth 75)), (some ((pth 71), true))⟩,
⟨(.pick (.tmp (pth 71)) (.tmp (pth 75)) (.val (.bool false))), opAt P 55 5 23, (some (pth 76)), (some ((pth 67), false))⟩,
⟨(.pick (.tmp (pth 67)) (.val (.bool true)) (.tmp (pth 76))), opAt P 55 5 24, (some (pth 77)), none⟩])
(.cond (.tmp (pth 77)) (.seq (.seqr [⟨(.mv (.val (.bool false))), opAt P 55 6 0, (some (pth 2)), none⟩])
.ret)
.skip))
(.seq (.seqr [⟨(.fa (.tmp (pth 1)) 22), opAt P 55 7 0, (some (pth 79)), none⟩,
⟨(.ld 55 (.tmp (pth 79))), opAt P 55 7 1, (some (pth 80)), none⟩,
⟨(.call 73 [(.tmp (pth 80))]), opAt P 55 7 2, (some (pth 81)), none⟩,
⟨(.mv (.tmp (pth 81))), opAt P 55 7 3, (some (pth 78)), none⟩,
⟨(.ext (.tmp (pth 78)) 0), opAt P 55 7 4, (some (pth 82)), none⟩,
⟨(.ext (.tmp (pth 78)) 1), opAt P 55 7 5, (some (pth 83)), none⟩,
⟨(.mv (.tmp (pth 82))), opAt P 55 7 6, (some (pth 3)), none⟩,
⟨(.mv (.tmp (pth 83))), opAt P 55 7 7, (some (pth 4)), none⟩])
(.seq (.seqr [⟨(.mv (.tmp (pth 4))), opAt P 55 8 0, (some (pth 84)), none⟩,
⟨(.bin .eql (.tmp (pth 84)) (.val (.int .i64 (0)))), opAt P 55 8 1, (some (pth 85)), none⟩,
⟨(.mv (.tmp (pth 85))), opAt P 55 8 2, (some (pth 2)), none⟩])
.ret)))))), [.tmp (pth 2)]⟩
theorem cf55_ok : cFn Tryd.prog 55 = some (cf55 Tryd.prog) := by kernel_rfl
def cf56 (P : Program) : FF := ⟨115, (.seq (.seqr [⟨.slow, opAt P 56 0 0, (some (pth 1)), none⟩,
⟨.slow, opAt P 56 0 1, (some (pth 2)), none⟩,
⟨(.mv (.val (.bool false))), opAt P 56 0 2, (some (pth 3)), none⟩])
(.seq (.seqr [⟨(.fa (.tmp (pth 1)) 0), opAt P 56 1 0, (some (pth 6)), none⟩,
⟨(.ld 3 (.tmp (pth 6))), opAt P 56 1 1, (some (pth 7)), none⟩,
⟨(.fa (.tmp (pth 1)) 1), opAt P 56 1 2, (some (pth 8)), none⟩,
⟨(.ld 3 (.tmp (pth 8))), opAt P 56 1 3, (some (pth 9)), none⟩,
⟨(.fa (.tmp (pth 1)) 2), opAt P 56 1 4, (some (pth 10)), none⟩,
⟨(.ld 3 (.tmp (pth 10))), opAt P 56 1 5, (some (pth 11)), none⟩,
⟨(.fa (.tmp (pth 1)) 3), opAt P 56 1 6, (some (pth 12)), none⟩,
⟨(.ld 3 (.tmp (pth 12))), opAt P 56 1 7, (some (pth 13)), none⟩,
⟨.slow, opAt P 56 1 8, (some (pth 14)), none⟩,
⟨.slow, opAt P 56 1 9, (some (pth 4)), none⟩,
⟨(.st 62 (.tmp (pth 4)) (.tmp (pth 14))), opAt P 56 1 10, none, none⟩])
(.seq (.seqr [⟨(.fa (.tmp (pth 1)) 1), opAt P 56 2 0, (some (pth 15)), none⟩,
⟨(.ld 3 (.tmp (pth 15))), opAt P 56 2 1, (some (pth 16)), none⟩,
⟨(.call 52 [(.tmp (pth 16))]), opAt P 56 2 2, (some (pth 17)), none⟩,
⟨(.mv (.tmp (pth 17))), opAt P 56 2 3, (some (pth 18)), none⟩,
⟨(.fa (.tmp (pth 1)) 1), opAt P 56 2 4, (some (pth 19)), (some ((pth 18), true))⟩,
⟨(.ld 3 (.tmp (pth 19))), opAt P 56 2 5, (some (pth 20)), (some ((pth 18), true))⟩,
⟨(.bin .gtr (.tmp (pth 20)) (.val (.int .i64 (0)))), opAt P 56 2 6, (some (pth 21)), (some ((pth 18), true))⟩,
⟨(.pick (.tmp (pth 18)) (.tmp (pth 21)) (.val (.bool false))), opAt P 56 2 7, (some (pth 22)), none⟩,
⟨(.mv (.tmp (pth 22))), opAt P 56 2 8, (some (pth 23)), none⟩,
⟨(.fa (.tmp (pth 1)) 2), opAt P 56 2 9, (some (pth 24)), (some ((pth 23), true))⟩,
⟨(.ld 3 (.tmp (pth 24))), opAt P 56 2 10, (some (pth 25)), (some ((pth 23), true))⟩,
⟨(.call 52 [(.tmp (pth 25))]), opAt P 56 2 11, (some (pth 26)), (some ((pth 23), true))⟩,
⟨(.pick (.tmp (pth 23)) (.tmp (pth 26)) (.val (.bool false))), opAt P 56 2 12, (some (pth 27)), none⟩,
⟨(.mv (.tmp (pth 27))), opAt P 56 2 13, (some (pth 28)), none⟩,
⟨(.fa (.tmp (pth 1)) 2), opAt P 56 2 14, (some (pth 29)), (some ((pth 28), true))⟩,
⟨(.ld 3 (.tmp (pth 29))), opAt P 56 2 15, (some (pth 30)), (some ((pth 28), true))⟩,
⟨(.bin .gtr (.tmp (pth 30)) (.val (.int .i64 (0)))), opAt P 56 2 16, (some (pth 31)), (some ((pth 28), true))⟩,
⟨(.pick (.tmp (pth 28)) (.tmp (pth 31)) (.val (.bool false))), opAt P 56 2 17, (some (pth 32)), none⟩,
⟨(.mv (.tmp (pth 32))), opAt P 56 2 18, (some (pth 33)), none⟩,
⟨(.fa (.tmp (pth 1)) 3), opAt P 56 2 19, (some (pth 34)), (some ((pth 33), true))⟩,
⟨(.ld 3 (.tmp (pth 34))), opAt P 56 2 20, (some (pth 35)), (some ((pth 33), true))⟩,
⟨(.call 52 [(.tmp (pth 35))]), opAt P 56 2 21, (some (pth 36)), (some ((pth 33), true))⟩,
⟨(.pick (.tmp (pth 33)) (.tmp (pth 36)) (.val (.bool false))), opAt P 56 2 22, (some (pth 37)), none⟩,
⟨(.mv (.tmp (pth 37))), opAt P 56 2 23, (some (pth 5)), none⟩])
(.seq (.seq (.seqr [⟨(.fa (.tmp (pth 1)) 0), opAt P 56 3 0, (some (pth 38)), none⟩,
⟨(.ld 3 (.tmp (pth 38))), opAt P 56 3 1, (some (pth 39)), none⟩])
(.block 0 (.seq (.seqr [⟨(.bin .eql (.tmp (pth 39)) (.val (.int .i64 (7)))), opAt P 56 4 0, (some (pth 41)), none⟩,
⟨(.mv (.tmp (pth 41))), opAt P 56 4 1, (some (pth 40)), none⟩])
(.cond (.tmp (pth 40)) (.seq (.reg [⟨(.fa (.tmp (pth 1)) 4), opAt P 56 5 0, (some (pth 42)), none⟩,
⟨(.ld 3 (.tmp (pth 42))), opAt P 56 5 1, (some (pth 43)), none⟩,
⟨(.fa (.tmp (pth 1)) 5), opAt P 56 5 2, (some (pth 44)), none⟩,
⟨(.ld 3 (.tmp (pth 44))), opAt P 56 5 3, (some (pth 45)), none⟩,
⟨(.fa (.tmp (pth 1)) 8), opAt P 56 5 4, (some (pth 46)), none⟩,
⟨(.ld 51 (.tmp (pth 46))), opAt P 56 5 5, (some (pth 47)), none⟩,
⟨(.fa (.tmp (pth 1)) 36), opAt P 56 5 6, (some (pth 48)), none⟩,
⟨(.ld 26 (.tmp (pth 48))), opAt P 56 5 7, (some (pth 49)), none⟩,
⟨(.fa (.tmp (pth 4)) 4), opAt P 56 5 8, (some (pth 50)), none⟩,
⟨(.st 3 (.tmp (pth 50)) (.tmp (pth 43))), opAt P 56 5 9, none, none⟩,
⟨(.fa (.tmp (pth 4)) 5), opAt P 56 5 10, (some (pth 51)), none⟩,
⟨(.st 3 (.tmp (pth 51)) (.tmp (pth 45))), opAt P 56 5 11, none, none⟩,
⟨(.fa (.tmp (pth 4)) 8), opAt P 56 5 12, (some (pth 52)), none⟩,
⟨(.st 51 (.tmp (pth 52)) (.tmp (pth 47))), opAt P 56 5 13, none, none⟩,
⟨(.fa (.tmp (pth 4)) 36), opAt P 56 5 14, (some (pth 53)), none⟩,
⟨(.st 26 (.tmp (pth 53)) (.tmp (pth 49))), opAt P 56 5 15, none, none⟩] [(1, 3), (1, 5), (3, 5), (1, 7), (3, 7), (5, 7), (3, 9), (5, 9), (7, 9), (5, 11), (7, 11), (7, 13)])
(.seqr [⟨(.mv (.tmp (pth 5))), opAt P 56 6 0, (some (pth 54)), none⟩,
⟨(.mv (.tmp (pth 54))), opAt P 56 6 1, (some (pth 55)), none⟩,
⟨(.fa (.tmp (pth 1)) 4), opAt P 56 6 2, (some (pth 56)), (some ((pth 55), true))⟩,
⟨(.ld 3 (.tmp (pth 56))), opAt P 56 6 3, (some (pth 57)), (some ((pth 55), true))⟩,
⟨(.bin .geq (.tmp (pth 57)) (.val (.int .i64 (1)))), opAt P 56 6 4, (some (pth 58)), (some ((pth 55), true))⟩,
⟨(.pick (.tmp (pth 55)) (.tmp (pth 58)) (.val (.bool false))), opAt P 56 6 5, (some (pth 59)), none⟩,
⟨(.mv (.tmp (pth 59))), opAt P 56 6 6, (some (pth 60)), none⟩,
⟨(.fa (.tmp (pth 1)) 4), opAt P 56 6 7, (some (pth 61)), (some ((pth 60), true))⟩,
⟨(.ld 3 (.tmp (pth 61))), opAt P 56 6 8, (some (pth 62)), (some ((pth 60), true))⟩,
⟨(.bin .leq (.tmp (pth 62)) (.val (.int .i64 (524288)))), opAt P 56 6 9, (some (pth 63)), (some ((pth 60), true))⟩,
⟨(.pick (.tmp (pth 60)) (.tmp (pth 63)) (.val (.bool false))), opAt P 56 6 10, (some (pth 64)), none⟩,
⟨(.mv (.tmp (pth 64))), opAt P 56 6 11, (some (pth 65)), none⟩,
⟨(.fa (.tmp (pth 1)) 5), opAt P 56 6 12, (some (pth 66)), (some ((pth 65), true))⟩,
⟨(.ld 3 (.tmp (pth 66))), opAt P 56 6 13, (some (pth 67)), (some ((pth 65), true))⟩,
⟨(.bin .geq (.tmp (pth 67)) (.val (.int .i64 (0)))), opAt P 56 6 14, (some (pth 68)), (some ((pth 65), true))⟩,
⟨(.pick (.tmp (pth 65)) (.tmp (pth 68)) (.val (.bool false))), opAt P 56 6 15, (some (pth 69)), none⟩,
⟨(.mv (.tmp (pth 69))), opAt P 56 6 16, (some (pth 70)), none⟩,
⟨(.fa (.tmp (pth 1)) 36), opAt P 56 6 17, (some (pth 71)), (some ((pth 70), true))⟩,
⟨(.ld 26 (.tmp (pth 71))), opAt P 56 6 18, (some (pth 72)), (some ((pth 70), true))⟩,
⟨(.call 51 [(.tmp (pth 72)), (.val (.int .i64 (512)))]), opAt P 56 6 19, (some (pth 73)), (some ((pth 70), true))⟩,
⟨(.pick (.tmp (pth 70)) (.tmp (pth 73)) (.val (.bool false))), opAt P 56 6 20, (some (pth 74)), none⟩,
⟨(.mv (.tmp (pth 74))), opAt P 56 6 21, (some (pth 75)), none⟩,
⟨(.fa (.tmp (pth 1)) 5), opAt P 56 6 22, (some (pth 76)), (some ((pth 75), true))⟩,
⟨(.ld 3 (.tmp (pth 76))), opAt P 56 6 23, (some (pth 77)), (some ((pth 75), true))⟩,
⟨(.fa (.tmp (pth 1)) 4), opAt P 56 6 24, (some (pth 78)), (some ((pth 75), true))⟩,
⟨(.ld 3 (.tmp (pth 78))), opAt P 56 6 25, (some (pth 79)), (some ((pth 75), true))⟩,
⟨(.fa (.tmp (pth 1)) 36), opAt P 56 6 26, (some (pth 80)), (some ((pth 75), true))⟩,
⟨(.ld 26 (.tmp (pth 80))), opAt P 56 6 27, (some (pth 81)), (some ((pth 75), true))⟩,
⟨.slow, opAt P 56 6 28, (some (pth 82)), (some ((pth 75), true))⟩,
⟨(.bin .sub (.tmp (pth 79)) (.tmp (pth 82))), opAt P 56 6 29, (some (pth 83)), (some ((pth 75), true))⟩,
⟨(.bin .leq (.tmp (pth 77)) (.tmp (pth 83))), opAt P 56 6 30, (some (pth 84)), (some ((pth 75), true))⟩,
⟨(.pick (.tmp (pth 75)) (.tmp (pth 84)) (.val (.bool false))), opAt P 56 6 31, (some (pth 85)), none⟩,
⟨(.mv (.tmp (pth 85))), opAt P 56 6 32, (some (pth 86)), none⟩,
⟨(.fa (.tmp (pth 1)) 8), opAt P 56 6 33, (some (pth 87)), (some ((pth 86), true))⟩,
⟨(.ld 51 (.tmp (pth 87))), opAt P 56 6 34, (some (pth 88)), (some ((pth 86), true))⟩,
⟨(.call 74 [(.tmp (pth 88))]), opAt P 56 6 35, (some (pth 89)), (some ((pth 86), true))⟩,
⟨(.pick (.tmp (pth 86)) (.tmp (pth 89)) (.val (.bool false))), opAt P 56 6 36, (some (pth 90)), none⟩,
⟨(.mv (.tmp (pth 90))), opAt P 56 6 37, (some (pth 5)), none⟩]))
(.seq (.seqr [⟨(.bin .eql (.tmp (pth 39)) (.val (.int .i64 (8)))), opAt P 56 7 0, (some (pth 92)), none⟩,
⟨(.mv (.tmp (pth 92))), opAt P 56 7 1, (some (pth 91)), none⟩])
(.cond (.tmp (pth 91)) (.seq (.seqr [⟨(.fa (.tmp (pth 1)) 5), opAt P 56 8 0, (some (pth 93)), none⟩,
⟨(.ld 3 (.tmp (pth 93))), opAt P 56 8 1, (some (pth 94)), none⟩,
⟨(.fa (.tmp (pth 4)) 5), opAt P 56 8 2, (some (pth 95)), none⟩,
⟨(.st 3 (.tmp (pth 95)) (.tmp (pth 94))), opAt P 56 8 3, none, none⟩])
(.seqr [⟨(.mv (.tmp (pth 5))), opAt P 56 9 0, (some (pth 96)), none⟩,
⟨(.mv (.tmp (pth 96))), opAt P 56 9 1, (some (pth 97)), none⟩,
⟨(.fa (.tmp (pth 1)) 5), opAt P 56 9 2, (some (pth 98)), (some ((pth 97), true))⟩,
⟨(.ld 3 (.tmp (pth 98))), opAt P 56 9 3, (some (pth 99)), (some ((pth 97), true))⟩,
⟨(.call 52 [(.tmp (pth 99))]), opAt P 56 9 4, (some (pth 100)), (some ((pth 97), true))⟩,
⟨(.pick (.tmp (pth 97)) (.tmp (pth 100)) (.val (.bool false))), opAt P 56 9 5, (some (pth 101)), none⟩,
⟨(.mv (.tmp (pth 101))), opAt P 56 9 6, (some (pth 5)), none⟩]))
(.seq (.seqr [⟨(.bin .eql (.tmp (pth 39)) (.val (.int .i64 (9)))), opAt P 56 10 0, (some (pth 103)), none⟩,
⟨(.mv (.tmp (pth 103))), opAt P 56 10 1, (some (pth 102)), none⟩])
(.cond (.tmp (pth 102)) (.seq (.seqr [⟨(.fa (.tmp (pth 1)) 36), opAt P 56 11 0, (some (pth 104)), none⟩,
⟨(.ld 26 (.tmp (pth 104))), opAt P 56 11 1, (some (pth 105)), none⟩,
⟨(.fa (.tmp (pth 4)) 36), opAt P 56 11 2, (some (pth 106)), none⟩,
⟨(.st 26 (.tmp (pth 106)) (.tmp (pth 105))), opAt P 56 11 3, none, none⟩])
(.seqr [⟨(.mv (.tmp (pth 5))), opAt P 56 12 0, (some (pth 107)), none⟩,
⟨(.mv (.tmp (pth 107))), opAt P 56 12 1, (some (pth 108)), none⟩,
⟨(.fa (.tmp (pth 1)) 36), opAt P 56 12 2, (some (pth 109)), (some ((pth 108), true))⟩,
⟨(.ld 26 (.tmp (pth 109))), opAt P 56 12 3, (some (pth 110)), (some ((pth 108), true))⟩,
⟨(.call 51 [(.tmp (pth 110)), (.val (.int .i64 (131072)))]), opAt P 56 12 4, (some (pth 111)), (some ((pth 108), true))⟩,
⟨(.pick (.tmp (pth 108)) (.tmp (pth 111)) (.val (.bool false))), opAt P 56 12 5, (some (pth 112)), none⟩,
⟨(.mv (.tmp (pth 112))), opAt P 56 12 6, (some (pth 5)), none⟩]))
.skip))))))))
(.seq (.seqr [⟨(.ld 62 (.tmp (pth 4))), opAt P 56 13 0, (some (pth 113)), none⟩,
⟨(.mv (.tmp (pth 5))), opAt P 56 13 1, (some (pth 114)), none⟩,
⟨(.st 62 (.tmp (pth 2)) (.tmp (pth 113))), opAt P 56 13 2, none, none⟩,
⟨(.mv (.tmp (pth 114))), opAt P 56 13 3, (some (pth 3)), none⟩])
.ret))))), [.cell (pth 2) 62, .tmp (pth 3)]⟩
theorem cf56_ok : cFn Tryd.prog 56 = some (cf56 Tryd.prog) := by kernel_rfl
def cf57 (P : Program) : FF := ⟨101, (.seq (.seqr [⟨.slow, opAt P 57 0 0, (some (pth 2)), none⟩,
⟨.slow, opAt P 57 0 1, (some (pth 3)), none⟩,
⟨(.mv (.val (.bool false))), opAt P 57 0 2, (some (pth 4)), none⟩])
(.seq (.seqr [⟨(.fa (.tmp (pth 2)) 0), opAt P 57 1 0, (some (pth 5)), none⟩,
⟨(.ld 3 (.tmp (pth 5))), opAt P 57 1 1, (some (pth 6)), none⟩,
⟨(.fa (.tmp (pth 3)) 0), opAt P 57 1 2, (some (pth 7)), none⟩,
⟨(.ld 3 (.tmp (pth 7))), opAt P 57 1 3, (some (pth 8)), none⟩,
⟨(.bin .eql (.tmp (pth 6)) (.tmp (pth 8))), opAt P 57 1 4, (some (pth 9)), none⟩,
⟨(.mv (.tmp (pth 9))), opAt P 57 1 5, (some (pth 10)), none⟩,
⟨(.fa (.tmp (pth 2)) 1), opAt P 57 1 6, (some (pth 11)), (some ((pth 10), true))⟩,
⟨(.ld 3 (.tmp (pth 11))), opAt P 57 1 7, (some (pth 12)), (some ((pth 10), true))⟩,
⟨(.fa (.tmp (pth 3)) 1), opAt P 57 1 8, (some (pth 13)), (some ((pth 10), true))⟩,
⟨(.ld 3 (.tmp (pth 13))), opAt P 57 1 9, (some (pth 14)), (some ((pth 10), true))⟩,
⟨(.bin .eql (.tmp (pth 12)) (.tmp (pth 14))), opAt P 57 1 10, (some (pth 15)), (some ((pth 10), true))⟩,
⟨(.pick (.tmp (pth 10)) (.tmp (pth 15)) (.val (.bool false))), opAt P 57 1 11, (some (pth 16)), none⟩,
⟨(.mv (.tmp (pth 16))), opAt P 57 1 12, (some (pth 17)), none⟩,
⟨(.fa (.tmp (pth 2)) 2), opAt P 57 1 13, (some (pth 18)), (some ((pth 17), true))⟩,
⟨(.ld 3 (.tmp (pth 18))), opAt P 57 1 14, (some (pth 19)), (some ((pth 17), true))⟩,
⟨(.fa (.tmp (pth 3)) 2), opAt P 57 1 15, (some (pth 20)), (some ((pth 17), true))⟩,
⟨(.ld 3 (.tmp (pth 20))), opAt P 57 1 16, (some (pth 21)), (some ((pth 17), true))⟩,
⟨(.bin .eql (.tmp (pth 19)) (.tmp (pth 21))), opAt P 57 1 17, (some (pth 22)), (some ((pth 17), true))⟩,
⟨(.pick (.tmp (pth 17)) (.tmp (pth 22)) (.val (.bool false))), opAt P 57 1 18, (some (pth 23)), none⟩,
⟨(.mv (.tmp (pth 23))), opAt P 57 1 19, (some (pth 24)), none⟩,
⟨(.fa (.tmp (pth 2)) 3), opAt P 57 1 20, (some (pth 25)), (some ((pth 24), true))⟩,
⟨(.ld 3 (.tmp (pth 25))), opAt P 57 1 21, (some (pth 26)), (some ((pth 24), true))⟩,
⟨(.fa (.tmp (pth 3)) 3), opAt P 57 1 22, (some (pth 27)), (some ((pth 24), true))⟩,
⟨(.ld 3 (.tmp (pth 27))), opAt P 57 1 23, (some (pth 28)), (some ((pth 24), true))⟩,
⟨(.bin .eql (.tmp (pth 26)) (.tmp (pth 28))), opAt P 57 1 24, (some (pth 29)), (some ((pth 24), true))⟩,
⟨(.pick (.tmp (pth 24)) (.tmp (pth 29)) (.val (.bool false))), opAt P 57 1 25, (some (pth 30)), none⟩,
⟨(.mv (.tmp (pth 30))), opAt P 57 1 26, (some (pth 31)), none⟩,
⟨(.fa (.tmp (pth 2)) 4), opAt P 57 1 27, (some (pth 32)), (some ((pth 31), true))⟩,
⟨(.ld 3 (.tmp (pth 32))), opAt P 57 1 28, (some (pth 33)), (some ((pth 31), true))⟩,
⟨(.fa (.tmp (pth 3)) 4), opAt P 57 1 29, (some (pth 34)), (some ((pth 31), true))⟩,
⟨(.ld 3 (.tmp (pth 34))), opAt P 57 1 30, (some (pth 35)), (some ((pth 31), true))⟩,
⟨(.bin .eql (.tmp (pth 33)) (.tmp (pth 35))), opAt P 57 1 31, (some (pth 36)), (some ((pth 31), true))⟩,
⟨(.pick (.tmp (pth 31)) (.tmp (pth 36)) (.val (.bool false))), opAt P 57 1 32, (some (pth 37)), none⟩,
⟨(.mv (.tmp (pth 37))), opAt P 57 1 33, (some (pth 38)), none⟩,
⟨(.fa (.tmp (pth 2)) 5), opAt P 57 1 34, (some (pth 39)), (some ((pth 38), true))⟩,
⟨(.ld 3 (.tmp (pth 39))), opAt P 57 1 35, (some (pth 40)), (some ((pth 38), true))⟩,
⟨(.fa (.tmp (pth 3)) 5), opAt P 57 1 36, (some (pth 41)), (some ((pth 38), true))⟩,
⟨(.ld 3 (.tmp (pth 41))), opAt P 57 1 37, (some (pth 42)), (some ((pth 38), true))⟩,
⟨(.bin .eql (.tmp (pth 40)) (.tmp (pth 42))), opAt P 57 1 38, (some (pth 43)), (some ((pth 38), true))⟩,
⟨(.pick (.tmp (pth 38)) (.tmp (pth 43)) (.val (.bool false))), opAt P 57 1 39, (some (pth 44)), none⟩,
⟨(.mv (.tmp (pth 44))), opAt P 57 1 40, (some (pth 45)), none⟩,
⟨(.fa (.tmp (pth 2)) 6), opAt P 57 1 41, (some (pth 46)), (some ((pth 45), true))⟩,
⟨(.ld 3 (.tmp (pth 46))), opAt P 57 1 42, (some (pth 47)), (some ((pth 45), true))⟩,
⟨(.fa (.tmp (pth 3)) 6), opAt P 57 1 43, (some (pth 48)), (some ((pth 45), true))⟩,
⟨(.ld 3 (.tmp (pth 48))), opAt P 57 1 44, (some (pth 49)), (some ((pth 45), true))⟩,
⟨(.bin .eql (.tmp (pth 47)) (.tmp (pth 49))), opAt P 57 1 45, (some (pth 50)), (some ((pth 45), true))⟩,
⟨(.pick (.tmp (pth 45)) (.tmp (pth 50)) (.val (.bool false))), opAt P 57 1 46, (some (pth 51)), none⟩,
⟨(.mv (.tmp (pth 51))), opAt P 57 1 47, (some (pth 52)), none⟩,
⟨(.fa (.tmp (pth 2)) 7), opAt P 57 1 48, (some (pth 53)), (some ((pth 52), true))⟩,
⟨(.ld 32 (.tmp (pth 53))), opAt P 57 1 49, (some (pth 54)), (some ((pth 52), true))⟩,
⟨(.fa (.tmp (pth 3)) 7), opAt P 57 1 50, (some (pth 55)), (some ((pth 52), true))⟩,
⟨(.ld 32 (.tmp (pth 55))), opAt P 57 1 51, (some (pth 56)), (some ((pth 52), true))⟩,
⟨(.bin .eql (.tmp (pth 54)) (.tmp (pth 56))), opAt P 57 1 52, (some (pth 57)), (some ((pth 52), true))⟩,
⟨(.pick (.tmp (pth 52)) (.tmp (pth 57)) (.val (.bool false))), opAt P 57 1 53, (some (pth 58)), none⟩,
⟨(.mv (.tmp (pth 58))), opAt P 57 1 54, (some (pth 59)), none⟩,
⟨(.fa (.tmp (pth 2)) 8), opAt P 57 1 55, (some (pth 60)), (some ((pth 59), true))⟩,
⟨(.ld 51 (.tmp (pth 60))), opAt P 57 1 56, (some (pth 61)), (some ((pth 59), true))⟩,
⟨(.fa (.tmp (pth 3)) 8), opAt P 57 1 57, (some (pth 62)), (some ((pth 59), true))⟩,
⟨(.ld 51 (.tmp (pth 62))), opAt P 57 1 58, (some (pth 63)), (some ((pth 59), true))⟩,
⟨(.bin .eql (.tmp (pth 61)) (.tmp (pth 63))), opAt P 57 1 59, (some (pth 64)), (some ((pth 59), true))⟩,
⟨(.pick (.tmp (pth 59)) (.tmp (pth 64)) (.val (.bool false))), opAt P 57 1 60, (some (pth 65)), none⟩,
⟨(.mv (.tmp (pth 65))), opAt P 57 1 61, (some (pth 66)), none⟩,
⟨(.fa (.tmp (pth 2)) 10), opAt P 57 1 62, (some (pth 67)), (some ((pth 66), true))⟩,
⟨(.ld 25 (.tmp (pth 67))), opAt P 57 1 63, (some (pth 68)), (some ((pth 66), true))⟩,
⟨(.fa (.tmp (pth 3)) 10), opAt P 57 1 64, (some (pth 69)), (some ((pth 66), true))⟩,
⟨(.ld 25 (.tmp (pth 69))), opAt P 57 1 65, (some (pth 70)), (some ((pth 66), true))⟩,
⟨(.bin .eql (.tmp (pth 68)) (.tmp (pth 70))), opAt P 57 1 66, (some (pth 71)), (some ((pth 66), true))⟩,
⟨(.pick (.tmp (pth 66)) (.tmp (pth 71)) (.val (.bool false))), opAt P 57 1 67, (some (pth 72)), none⟩,
⟨(.mv (.tmp (pth 72))), opAt P 57 1 68, (some (pth 73)), none⟩,
⟨(.fa (.tmp (pth 2)) 22), opAt P 57 1 69, (some (pth 74)), (some ((pth 73), true))⟩,
⟨(.ld 55 (.tmp (pth 74))), opAt P 57 1 70, (some (pth 75)), (some ((pth 73), true))⟩,
⟨(.fa (.tmp (pth 3)) 22), opAt P 57 1 71, (some (pth 76)), (some ((pth 73), true))⟩,
⟨(.ld 55 (.tmp (pth 76))), opAt P 57 1 72, (some (pth 77)), (some ((pth 73), true))⟩,
⟨(.bin .eql (.tmp (pth 75)) (.tmp (pth 77))), opAt P 57 1 73, (some (pth 78)), (some ((pth 73), true))⟩,
⟨(.pick (.tmp (pth 73)) (.tmp (pth 78)) (.val (.bool false))), opAt P 57 1 74, (some (pth 79)), none⟩,
⟨(.mv (.tmp (pth 79))), opAt P 57 1 75, (some (pth 80)), none⟩,
⟨(.fa (.tmp (pth 2)) 28), opAt P 57 1 76, (some (pth 81)), (some ((pth 80), true))⟩,
⟨(.ld 58 (.tmp (pth 81))), opAt P 57 1 77, (some (pth 82)), (some ((pth 80), true))⟩,
⟨(.fa (.tmp (pth 3)) 28), opAt P 57 1 78, (some (pth 83)), (some ((pth 80), true))⟩,
⟨(.ld 58 (.tmp (pth 83))), opAt P 57 1 79, (some (pth 84)), (some ((pth 80), true))⟩,
⟨(.call 72 [(.tmp (pth 82)), (.tmp (pth 84))]), opAt P 57 1 80, (some (pth 85)), (some ((pth 80), true))⟩,
⟨(.pick (.tmp (pth 80)) (.tmp (pth 85)) (.val (.bool false))), opAt P 57 1 81, (some (pth 86)), none⟩,
⟨(.mv (.tmp (pth 86))), opAt P 57 1 82, (some (pth 87)), none⟩,
⟨(.fa (.tmp (pth 2)) 31), opAt P 57 1 83, (some (pth 88)), (some ((pth 87), true))⟩,
⟨(.ld 60 (.tmp (pth 88))), opAt P 57 1 84, (some (pth 89)), (some ((pth 87), true))⟩,
⟨(.fa (.tmp (pth 3)) 31), opAt P 57 1 85, (some (pth 90)), (some ((pth 87), true))⟩,
⟨(.ld 60 (.tmp (pth 90))), opAt P 57 1 86, (some (pth 91)), (some ((pth 87), true))⟩,
⟨(.bin .eql (.tmp (pth 89)) (.tmp (pth 91))), opAt P 57 1 87, (some (pth 92)), (some ((pth 87), true))⟩,
⟨(.pick (.tmp (pth 87)) (.tmp (pth 92)) (.val (.bool false))), opAt P 57 1 88, (some (pth 93)), none⟩,
⟨(.mv (.tmp (pth 93))), opAt P 57 1 89, (some (pth 94)), none⟩,
⟨(.fa (.tmp (pth 2)) 36), opAt P 57 1 90, (some (pth 95)), (some ((pth 94), true))⟩,
⟨(.ld 26 (.tmp (pth 95))), opAt P 57 1 91, (some (pth 96)), (some ((pth 94), true))⟩,
⟨(.fa (.tmp (pth 3)) 36), opAt P 57 1 92, (some (pth 97)), (some ((pth 94), true))⟩,
⟨(.ld 26 (.tmp (pth 97))), opAt P 57 1 93, (some (pth 98)), (some ((pth 94), true))⟩,
⟨(.call 75 [(.tmp (pth 96)), (.tmp (pth 98))]), opAt P 57 1 94, (some (pth 99)), (some ((pth 94), true))⟩,
⟨(.pick (.tmp (pth 94)) (.tmp (pth 99)) (.val (.bool false))), opAt P 57 1 95, (some (pth 100)), none⟩,
⟨(.mv (.tmp (pth 100))), opAt P 57 1 96, (some (pth 4)), none⟩])
.ret)), [.tmp (pth 4)]⟩
theorem cf57_ok : cFn Tryd.prog 57 = some (cf57 Tryd.prog) := by kernel_rfl
def cf58 (P : Program) : FF := ⟨23, (.seq (.seqr [⟨(.mv (.val (.slice none 0 0))), opAt P 58 0 0, (some (pth 4)), none⟩])
(.seq (.seqr [⟨(.mv (.tmp (pth 1))), opAt P 58 1 0, (some (pth 5)), none⟩,
⟨.slow, opAt P 58 1 1, (some (pth 6)), none⟩,
⟨.slow, opAt P 58 1 2, (some (pth 7)), none⟩,
⟨(.mv (.tmp (pth 7))), opAt P 58 1 3, (some (pth 1)), none⟩])
(.seq (.block 0 (.loop (.seq (.seq (.seqr [⟨(.mv (.tmp (pth 1))), opAt P 58 2 0, (some (pth 8)), none⟩,
⟨(.bin .geq (.tmp (pth 8)) (.val (.int .i64 (128)))), opAt P 58 2 1, (some (pth 9)), none⟩])
(.cond (.tmp (pth 9)) .skip
(.exit 0)))
(.block 1 (.seq (.seqr [⟨(.mv (.tmp (pth 0))), opAt P 58 3 0, (some (pth 10)), none⟩,
⟨(.mv (.tmp (pth 1))), opAt P 58 3 1, (some (pth 11)), none⟩,
⟨.slow, opAt P 58 3 2, (some (pth 12)), none⟩,
⟨(.bin .or (.tmp (pth 12)) (.val (.int .u8 (128)))), opAt P 58 3 3, (some (pth 13)), none⟩,
⟨.slow, opAt P 58 3 4, (some (pth 14)), none⟩,
⟨.slow, opAt P 58 3 5, (some (pth 15)), none⟩,
⟨(.mv (.tmp (pth 15))), opAt P 58 3 6, (some (pth 0)), none⟩])
(.seqr [⟨(.mv (.tmp (pth 1))), opAt P 58 4 0, (some (pth 16)), none⟩,
⟨(.bin .shr (.tmp (pth 16)) (.val (.int .u64 (7)))), opAt P 58 4 1, (some (pth 17)), none⟩,
⟨(.mv (.tmp (pth 17))), opAt P 58 4 2, (some (pth 1)), none⟩]))))))
(.seq (.seqr [⟨(.mv (.tmp (pth 0))), opAt P 58 5 0, (some (pth 18)), none⟩,
⟨(.mv (.tmp (pth 1))), opAt P 58 5 1, (some (pth 19)), none⟩,
⟨.slow, opAt P 58 5 2, (some (pth 20)), none⟩,
⟨.slow, opAt P 58 5 3, (some (pth 21)), none⟩,
⟨.slow, opAt P 58 5 4, (some (pth 22)), none⟩,
⟨(.mv (.tmp (pth 22))), opAt P 58 5 5, (some (pth 4)), none⟩])
.ret)))), [.tmp (pth 4)]⟩
theorem cf58_ok : cFn Tryd.prog 58 = some (cf58 Tryd.prog) := by kernel_rfl
def cf59 (P : Program) : FF := ⟨10, (.seq (.seqr [⟨.slow, opAt P 59 0 0, (some (pth 2)), none⟩])
(.seqr [⟨(.mv (.tmp (pth 1))), opAt P 59 1 0, (some (pth 4)), none⟩,
⟨(.fa (.tmp (pth 2)) 28), opAt P 59 1 1, (some (pth 5)), none⟩,
⟨(.ld 58 (.tmp (pth 5))), opAt P 59 1 2, (some (pth 6)), none⟩,
⟨(.call 71 [(.tmp (pth 6))]), opAt P 59 1 3, (some (pth 7)), none⟩,
⟨.slow, opAt P 59 1 4, (some (pth 8)), none⟩,
⟨(.call 37 [(.tmp (pth 4)), (.tmp (pth 8))]), opAt P 59 1 5, (some (pth 9)), none⟩])), []⟩
theorem cf59_ok : cFn Tryd.prog 59 = some (cf59 Tryd.prog) := by kernel_rfl
def cf60 (P : Program) : FF := ⟨16, (.seq (.seqr [⟨.slow, opAt P 60 0 0, (some (pth 2)), none⟩])
(.seq (.seqr [⟨(.fa (.tmp (pth 2)) 31), opAt P 60 1 0, (some (pth 7)), none⟩,
⟨(.ld 60 (.tmp (pth 7))), opAt P 60 1 1, (some (pth 8)), none⟩,
⟨(.call 54 [(.tmp (pth 8))]), opAt P 60 1 2, (some (pth 9)), none⟩,
⟨(.mv (.tmp (pth 9))), opAt P 60 1 3, (some (pth 6)), none⟩,
⟨(.ext (.tmp (pth 6)) 0), opAt P 60 1 4, (some (pth 10)), none⟩,
⟨(.ext (.tmp (pth 6)) 1), opAt P 60 1 5, (some (pth 11)), none⟩,
⟨(.mv (.tmp (pth 10))), opAt P 60 1 6, (some (pth 4)), none⟩,
⟨(.mv (.tmp (pth 11))), opAt P 60 1 7, (some (pth 5)), none⟩])
(.seqr [⟨(.mv (.tmp (pth 1))), opAt P 60 2 0, (some (pth 12)), none⟩,
⟨(.mv (.tmp (pth 4))), opAt P 60 2 1, (some (pth 13)), none⟩,
⟨.slow, opAt P 60 2 2, (some (pth 14)), none⟩,
⟨(.call 37 [(.tmp (pth 12)), (.tmp (pth 14))]), opAt P 60 2 3, (some (pth 15)), none⟩]))), []⟩
theorem cf60_ok : cFn Tryd.prog 60 = some (cf60 Tryd.prog) := by kernel_rfl
def cf61 (P : Program) : FF := ⟨16, (.seq (.seqr [⟨.slow, opAt P 61 0 0, (some (pth 2)), none⟩])
(.seq (.seqr [⟨(.fa (.tmp (pth 2)) 10), opAt P 61 1 0, (some (pth 7)), none⟩,
⟨(.ld 25 (.tmp (pth 7))), opAt P 61 1 1, (some (pth 8)), none⟩,
⟨(.call 76 [(.tmp (pth 8))]), opAt P 61 1 2, (some (pth 9)), none⟩,
⟨(.mv (.tmp (pth 9))), opAt P 61 1 3, (some (pth 6)), none⟩,
⟨(.ext (.tmp (pth 6)) 0), opAt P 61 1 4, (some (pth 10)), none⟩,
⟨(.ext (.tmp (pth 6)) 1), opAt P 61 1 5, (some (pth 11)), none⟩,
⟨(.mv (.tmp (pth 10))), opAt P 61 1 6, (some (pth 4)), none⟩,
⟨(.mv (.tmp (pth 11))), opAt P 61 1 7, (some (pth 5)), none⟩])
(.seqr [⟨(.mv (.tmp (pth 1))), opAt P 61 2 0, (some (pth 12)), none⟩,
⟨(.mv (.tmp (pth 4))), opAt P 61 2 1, (some (pth 13)), none⟩,
⟨.slow, opAt P 61 2 2, (some (pth 14)), none⟩,
⟨(.call 37 [(.tmp (pth 12)), (.tmp (pth 14))]), opAt P 61 2 3, (some (pth 15)), none⟩]))), []⟩
theorem cf61_ok : cFn Tryd.prog 61 = some (cf61 Tryd.prog) := by kernel_rfl
def cf62 (P : Program) : FF := ⟨28, (.seq (.seqr [⟨.slow, opAt P 62 0 0, (some (pth 2)), none⟩])
(.seq (.seqr [⟨(.fa (.tmp (pth 2)) 22), opAt P 62 1 0, (some (pth 7)), none⟩,
⟨(.ld 55 (.tmp (pth 7))), opAt P 62 1 1, (some (pth 8)), none⟩,
⟨(.call 73 [(.tmp (pth 8))]), opAt P 62 1 2, (some (pth 9)), none⟩,
⟨(.mv (.tmp (pth 9))), opAt P 62 1 3, (some (pth 6)), none⟩,
⟨(.ext (.tmp (pth 6)) 0), opAt P 62 1 4, (some (pth 10)), none⟩,
⟨(.ext (.tmp (pth 6)) 1), opAt P 62 1 5, (some (pth 11)), none⟩,
⟨(.mv (.tmp (pth 10))), opAt P 62 1 6, (some (pth 4)), none⟩,
⟨(.mv (.tmp (pth 11))), opAt P 62 1 7, (some (pth 5)), none⟩])
(.seq (.seqr [⟨(.mv (.tmp (pth 1))), opAt P 62 2 0, (some (pth 12)), none⟩,
⟨(.fa (.tmp (pth 2)) 10), opAt P 62 2 1, (some (pth 13)), none⟩,
⟨(.fa (.tmp (pth 13)) 0), opAt P 62 2 2, (some (pth 14)), none⟩,
⟨(.ld 3 (.tmp (pth 14))), opAt P 62 2 3, (some (pth 15)), none⟩,
⟨(.fa (.tmp (pth 2)) 10), opAt P 62 2 4, (some (pth 16)), none⟩,
⟨(.fa (.tmp (pth 16)) 1), opAt P 62 2 5, (some (pth 17)), none⟩,
⟨(.ld 3 (.tmp (pth 17))), opAt P 62 2 6, (some (pth 18)), none⟩,
⟨(.fa (.tmp (pth 2)) 10), opAt P 62 2 7, (some (pth 19)), none⟩,
⟨(.fa (.tmp (pth 19)) 2), opAt P 62 2 8, (some (pth 20)), none⟩,
⟨(.ld 3 (.tmp (pth 20))), opAt P 62 2 9, (some (pth 21)), none⟩,
⟨.slow, opAt P 62 2 10, (some (pth 22)), none⟩,
⟨(.call 36 [(.tmp (pth 12)), (.tmp (pth 22))]), opAt P 62 2 11, (some (pth 23)), none⟩])
(.seqr [⟨(.mv (.tmp (pth 1))), opAt P 62 3 0, (some (pth 24)), none⟩,
⟨(.mv (.tmp (pth 4))), opAt P 62 3 1, (some (pth 25)), none⟩,
⟨.slow, opAt P 62 3 2, (some (pth 26)), none⟩,
⟨(.call 37 [(.tmp (pth 24)), (.tmp (pth 26))]), opAt P 62 3 3, (some (pth 27)), none⟩])))), []⟩
theorem cf62_ok : cFn Tryd.prog 62 = some (cf62 Tryd.prog) := by kernel_rfl
def cf63 (P : Program) : FF := ⟨9, (.seq (.seqr [⟨.slow, opAt P 63 0 0, (some (pth 2)), none⟩])
(.seqr [⟨(.mv (.tmp (pth 1))), opAt P 63 1 0, (some (pth 4)), none⟩,
⟨(.fa (.tmp (pth 2)) 36), opAt P 63 1 1, (some (pth 5)), none⟩,
⟨(.ld 26 (.tmp (pth 5))), opAt P 63 1 2, (some (pth 6)), none⟩,
⟨.slow, opAt P 63 1 3, (some (pth 7)), none⟩,
⟨(.call 37 [(.tmp (pth 4)), (.tmp (pth 7))]), opAt P 63 1 4, (some (pth 8)), none⟩])), []⟩
theorem cf63_ok : cFn Tryd.prog 63 = some (cf63 Tryd.prog) := by kernel_rfl
def cf64 (P : Program) : FF := ⟨19, (.seq (.seqr [⟨(.mv (.val (.slice none 0 0))), opAt P 64 0 0, (some (pth 4)), none⟩])
(.seq (.seqr [⟨(.mv (.tmp (pth 0))), opAt P 64 1 0, (some (pth 5)), none⟩,
⟨(.mv (.tmp (pth 1))), opAt P 64 1 1, (some (pth 6)), none⟩,
⟨.slow, opAt P 64 1 2, (some (pth 7)), none⟩,
⟨(.mv (.tmp (pth 1))), opAt P 64 1 3, (some (pth 8)), none⟩,
⟨(.bin .shr (.tmp (pth 8)) (.val (.int .u64 (8)))), opAt P 64 1 4, (some (pth 9)), none⟩,
⟨.slow, opAt P 64 1 5, (some (pth 10)), none⟩,
⟨(.mv (.tmp (pth 1))), opAt P 64 1 6, (some (pth 11)), none⟩,
⟨(.bin .shr (.tmp (pth 11)) (.val (.int .u64 (16)))), opAt P 64 1 7, (some (pth 12)), none⟩,
⟨.slow, opAt P 64 1 8, (some (pth 13)), none⟩,
⟨(.mv (.tmp (pth 1))), opAt P 64 1 9, (some (pth 14)), none⟩,
⟨(.bin .shr (.tmp (pth 14)) (.val (.int .u64 (24)))), opAt P 64 1 10, (some (pth 15)), none⟩,
⟨.slow, opAt P 64 1 11, (some (pth 16)), none⟩,
⟨.slow, opAt P 64 1 12, (some (pth 17)), none⟩,
⟨.slow, opAt P 64 1 13, (some (pth 18)), none⟩,
⟨(.mv (.tmp (pth 18))), opAt P 64 1 14, (some (pth 4)), none⟩])
.ret)), [.tmp (pth 4)]⟩
theorem cf64_ok : cFn Tryd.prog 64 = some (cf64 Tryd.prog) := by kernel_rfl
def cf65 (P : Program) : FF := ⟨41, (.seq (.seqr [⟨(.mv (.val (.int .u32 (0)))), opAt P 65 0 0, (some (pth 2)), none⟩])
(.seq (.seqr [⟨(.mv (.val (.int .u32 (4294967295)))), opAt P 65 1 0, (some (pth 3)), none⟩])
(.seq (.seq (.seqr [⟨(.mv (.tmp (pth 0))), opAt P 65 2 0, (some (pth 9)), none⟩,
⟨.slow, opAt P 65 2 1, (some (pth 10)), none⟩,
⟨(.mv (.val (.int .i64 (0)))), opAt P 65 2 2, (some (pth 11)), none⟩])
(.block 0 (.loop (.seq (.seqr [⟨(.bin .lss (.tmp (pth 11)) (.tmp (pth 10))), opAt P 65 3 0, (some (pth 12)), none⟩])
(.seq (.cond (.tmp (pth 12)) .skip
(.exit 0))
(.seq (.block 1 (.seq (.seqr [⟨(.ia (.tmp (pth 9)) (.tmp (pth 11)) 1), opAt P 65 4 0, (some (pth 13)), none⟩,
⟨(.ld 26 (.tmp (pth 13))), opAt P 65 4 1, (some (pth 14)), none⟩,
⟨(.mv (.tmp (pth 14))), opAt P 65 4 2, (some (pth 5)), none⟩])
(.seq (.seqr [⟨(.mv (.tmp (pth 5))), opAt P 65 5 0, (some (pth 15)), none⟩,
⟨.slow, opAt P 65 5 1, (some (pth 16)), none⟩,
⟨(.mv (.val (.int .i64 (0)))), opAt P 65 5 2, (some (pth 17)), none⟩])
(.block 2 (.loop (.seq (.seqr [⟨(.bin .lss (.tmp (pth 17)) (.tmp (pth 16))), opAt P 65 6 0, (some (pth 18)), none⟩])
(.seq (.cond (.tmp (pth 18)) .skip
(.exit 2))
(.seq (.block 3 (.seq (.seqr [⟨(.ia (.tmp (pth 15)) (.tmp (pth 17)) 1), opAt P 65 7 0, (some (pth 19)), none⟩,
⟨(.ld 5 (.tmp (pth 19))), opAt P 65 7 1, (some (pth 20)), none⟩,
⟨(.mv (.tmp (pth 20))), opAt P 65 7 2, (some (pth 7)), none⟩])
(.seq (.seqr [⟨(.mv (.tmp (pth 3))), opAt P 65 8 0, (some (pth 21)), none⟩,
⟨.slow, opAt P 65 8 1, (some (pth 22)), none⟩,
⟨(.mv (.tmp (pth 7))), opAt P 65 8 2, (some (pth 23)), none⟩,
⟨(.bin .xor (.tmp (pth 22)) (.tmp (pth 23))), opAt P 65 8 3, (some (pth 24)), none⟩,
⟨(.mv (.tmp (pth 24))), opAt P 65 8 4, (some (pth 8)), none⟩])
(.reg [⟨(.mv (.tmp (pth 3))), opAt P 65 9 0, (some (pth 25)), none⟩,
⟨(.bin .shr (.tmp (pth 25)) (.val (.int .u64 (8)))), opAt P 65 9 1, (some (pth 26)), none⟩,
⟨(.mv (.tmp (pth 8))), opAt P 65 9 2, (some (pth 27)), none⟩,
⟨(.bin .and (.tmp (pth 27)) (.val (.int .u8 (15)))), opAt P 65 9 3, (some (pth 28)), none⟩,
⟨.slow, opAt P 65 9 4, (some (pth 29)), none⟩,
⟨(.ld 124 (.tmp (pth 29))), opAt P 65 9 5, (some (pth 30)), none⟩,
⟨(.bin .xor (.tmp (pth 26)) (.tmp (pth 30))), opAt P 65 9 6, (some (pth 31)), none⟩,
⟨(.mv (.tmp (pth 8))), opAt P 65 9 7, (some (pth 32)), none⟩,
⟨(.bin .shr (.tmp (pth 32)) (.val (.int .u64 (4)))), opAt P 65 9 8, (some (pth 33)), none⟩,
⟨.slow, opAt P 65 9 9, (some (pth 34)), none⟩,
⟨(.ld 124 (.tmp (pth 34))), opAt P 65 9 10, (some (pth 35)), none⟩,
⟨(.bin .xor (.tmp (pth 31)) (.tmp (pth 35))), opAt P 65 9 11, (some (pth 36)), none⟩,
⟨(.mv (.tmp (pth 36))), opAt P 65 9 12, (some (pth 3)), none⟩] [(1, 3), (1, 4), (1, 5), (1, 8), (3, 8), (4, 8), (5, 8), (6, 8), (1, 9), (3, 9), (4, 9), (5, 9), (6, 9), (1, 10), (3, 10), (4, 10), (5, 10), (6, 10)]))))
(.seqr [⟨(.bin .add (.tmp (pth 17)) (.val (.int .i64 (1)))), opAt P 65 10 0, (some (pth 37)), none⟩,
⟨(.mv (.tmp (pth 37))), opAt P 65 10 1, (some (pth 17)), none⟩])))))))))
(.seqr [⟨(.bin .add (.tmp (pth 11)) (.val (.int .i64 (1)))), opAt P 65 11 0, (some (pth 38)), none⟩,
⟨(.mv (.tmp (pth 38))), opAt P 65 11 1, (some (pth 11)), none⟩])))))))
(.seq (.seqr [⟨(.mv (.tmp (pth 3))), opAt P 65 12 0, (some (pth 39)), none⟩,
⟨(.un .xor (.tmp (pth 39))), opAt P 65 12 1, (some (pth 40)), none⟩,
⟨(.mv (.tmp (pth 40))), opAt P 65 12 2, (some (pth 2)), none⟩])
.ret)))), [.tmp (pth 2)]⟩
theorem cf65_ok : cFn Tryd.prog 65 = some (cf65 Tryd.prog) := by kernel_rfl
def cf66 (P : Program) : FF := ⟨34, (.seq (.seqr [⟨(.mv (.val (.int .u32 (0)))), opAt P 66 0 0, (some (pth 4)), none⟩])
(.seq (.reg [⟨(.mv (.tmp (pth 0))), opAt P 66 1 0, (some (pth 5)), none⟩,
⟨(.mv (.tmp (pth 1))), opAt P 66 1 1, (some (pth 6)), none⟩,
⟨(.ia (.tmp (pth 5)) (.tmp (pth 6)) 1), opAt P 66 1 2, (some (pth 7)), none⟩,
⟨(.ld 5 (.tmp (pth 7))), opAt P 66 1 3, (some (pth 8)), none⟩,
⟨.slow, opAt P 66 1 4, (some (pth 9)), none⟩,
⟨(.mv (.tmp (pth 0))), opAt P 66 1 5, (some (pth 10)), none⟩,
⟨(.mv (.tmp (pth 1))), opAt P 66 1 6, (some (pth 11)), none⟩,
⟨(.bin .add (.tmp (pth 11)) (.val (.int .i64 (1)))), opAt P 66 1 7, (some (pth 12)), none⟩,
⟨(.ia (.tmp (pth 10)) (.tmp (pth 12)) 1), opAt P 66 1 8, (some (pth 13)), none⟩,
⟨(.ld 5 (.tmp (pth 13))), opAt P 66 1 9, (some (pth 14)), none⟩,
⟨.slow, opAt P 66 1 10, (some (pth 15)), none⟩,
⟨(.bin .shl (.tmp (pth 15)) (.val (.int .u64 (8)))), opAt P 66 1 11, (some (pth 16)), none⟩,
⟨(.bin .or (.tmp (pth 9)) (.tmp (pth 16))), opAt P 66 1 12, (some (pth 17)), none⟩,
⟨(.mv (.tmp (pth 0))), opAt P 66 1 13, (some (pth 18)), none⟩,
⟨(.mv (.tmp (pth 1))), opAt P 66 1 14, (some (pth 19)), none⟩,
⟨(.bin .add (.tmp (pth 19)) (.val (.int .i64 (2)))), opAt P 66 1 15, (some (pth 20)), none⟩,
⟨(.ia (.tmp (pth 18)) (.tmp (pth 20)) 1), opAt P 66 1 16, (some (pth 21)), none⟩,
⟨(.ld 5 (.tmp (pth 21))), opAt P 66 1 17, (some (pth 22)), none⟩,
⟨.slow, opAt P 66 1 18, (some (pth 23)), none⟩,
⟨(.bin .shl (.tmp (pth 23)) (.val (.int .u64 (16)))), opAt P 66 1 19, (some (pth 24)), none⟩,
⟨(.bin .or (.tmp (pth 17)) (.tmp (pth 24))), opAt P 66 1 20, (some (pth 25)), none⟩,
⟨(.mv (.tmp (pth 0))), opAt P 66 1 21, (some (pth 26)), none⟩,
⟨(.mv (.tmp (pth 1))), opAt P 66 1 22, (some (pth 27)), none⟩,
⟨(.bin .add (.tmp (pth 27)) (.val (.int .i64 (3)))), opAt P 66 1 23, (some (pth 28)), none⟩,
⟨(.ia (.tmp (pth 26)) (.tmp (pth 28)) 1), opAt P 66 1 24, (some (pth 29)), none⟩,
⟨(.ld 5 (.tmp (pth 29))), opAt P 66 1 25, (some (pth 30)), none⟩,
⟨.slow, opAt P 66 1 26, (some (pth 31)), none⟩,
⟨(.bin .shl (.tmp (pth 31)) (.val (.int .u64 (24)))), opAt P 66 1 27, (some (pth 32)), none⟩,
⟨(.bin .or (.tmp (pth 25)) (.tmp (pth 32))), opAt P 66 1 28, (some (pth 33)), none⟩,
⟨(.mv (.tmp (pth 33))), opAt P 66 1 29, (some (pth 4)), none⟩] [(3, 7), (4, 7), (3, 9), (4, 9), (3, 10), (4, 10), (3, 11), (4, 11), (3, 15), (4, 15), (7, 15), (9, 15), (10, 15), (11, 15), (12, 15), (3, 17), (4, 17), (7, 17), (9, 17), (10, 17), (11, 17), (12, 17), (3, 18), (4, 18), (7, 18), (9, 18), (10, 18), (11, 18), (12, 18), (3, 19), (4, 19), (7, 19), (9, 19), (10, 19), (11, 19), (12, 19), (3, 23), (4, 23), (7, 23), (9, 23), (10, 23), (11, 23), (12, 23), (15, 23), (17, 23), (18, 23), (19, 23), (20, 23), (3, 25), (4, 25), (7, 25), (9, 25), (10, 25), (11, 25), (12, 25), (15, 25), (17, 25), (18, 25), (19, 25), (20, 25), (3, 26), (4, 26), (7, 26), (9, 26), (10, 26), (11, 26), (12, 26), (15, 26), (17, 26), (18, 26), (19, 26), (20, 26), (3, 27), (4, 27), (7, 27), (9, 27), (10, 27), (11, 27), (12, 27), (15, 27), (17, 27), (18, 27), (19, 27), (20, 27)])
.ret)), [.tmp (pth 4)]⟩
theorem cf66_ok : cFn Tryd.prog 66 = some (cf66 Tryd.prog) := by kernel_rfl
def cf67 (P : Program) : FF := ⟨34, (.seq (.seqr [⟨.slow, opAt P 67 0 0, (some (pth 2)), none⟩])
(.seq (.seqr [⟨.slow, opAt P 67 1 0, (some (pth 3)), none⟩])
(.seq (.seqr [⟨(.mv (.tmp (pth 0))), opAt P 67 2 0, (some (pth 4)), none⟩,
⟨(.fa (.tmp (pth 3)) 0), opAt P 67 2 1, (some (pth 5)), none⟩,
⟨.slow, opAt P 67 2 2, (some (pth 6)), none⟩,
⟨(.call 26 [(.tmp (pth 4)), (.tmp (pth 6))]), opAt P 67 2 3, (some (pth 7)), none⟩])
(.seq (.seqr [⟨(.mv (.tmp (pth 0))), opAt P 67 3 0, (some (pth 8)), none⟩,
⟨(.call 27 [(.tmp (pth 8))]), opAt P 67 3 1, (some (pth 9)), none⟩,
⟨.slow, opAt P 67 3 2, (some (pth 10)), none⟩,
⟨(.fa (.tmp (pth 3)) 1), opAt P 67 3 3, (some (pth 11)), none⟩,
⟨(.fa (.tmp (pth 11)) 0), opAt P 67 3 4, (some (pth 12)), none⟩,
⟨(.st 9 (.tmp (pth 12)) (.tmp (pth 10))), opAt P 67 3 5, none, none⟩])
(.seq (.seqr [⟨(.mv (.tmp (pth 0))), opAt P 67 4 0, (some (pth 13)), none⟩,
⟨(.call 27 [(.tmp (pth 13))]), opAt P 67 4 1, (some (pth 14)), none⟩,
⟨.slow, opAt P 67 4 2, (some (pth 15)), none⟩,
⟨(.fa (.tmp (pth 3)) 1), opAt P 67 4 3, (some (pth 16)), none⟩,
⟨(.fa (.tmp (pth 16)) 1), opAt P 67 4 4, (some (pth 17)), none⟩,
⟨(.st 9 (.tmp (pth 17)) (.tmp (pth 15))), opAt P 67 4 5, none, none⟩])
(.seq (.seqr [⟨(.mv (.tmp (pth 0))), opAt P 67 5 0, (some (pth 18)), none⟩,
⟨(.fa (.tmp (pth 3)) 3), opAt P 67 5 1, (some (pth 19)), none⟩,
⟨(.fa (.tmp (pth 3)) 4), opAt P 67 5 2, (some (pth 20)), none⟩,
⟨(.fa (.tmp (pth 3)) 5), opAt P 67 5 3, (some (pth 21)), none⟩,
⟨(.fa (.tmp (pth 3)) 6), opAt P 67 5 4, (some (pth 22)), none⟩,
⟨.slow, opAt P 67 5 5, (some (pth 23)), none⟩,
⟨(.call 26 [(.tmp (pth 18)), (.tmp (pth 23))]), opAt P 67 5 6, (some (pth 24)), none⟩])
(.seq (.seqr [⟨(.mv (.tmp (pth 0))), opAt P 67 6 0, (some (pth 25)), none⟩,
⟨(.call 27 [(.tmp (pth 25))]), opAt P 67 6 1, (some (pth 26)), none⟩,
⟨.slow, opAt P 67 6 2, (some (pth 27)), none⟩,
⟨(.fa (.tmp (pth 3)) 7), opAt P 67 6 3, (some (pth 28)), none⟩,
⟨(.st 9 (.tmp (pth 28)) (.tmp (pth 27))), opAt P 67 6 4, none, none⟩])
(.seq (.seqr [⟨(.mv (.tmp (pth 0))), opAt P 67 7 0, (some (pth 29)), none⟩,
⟨(.fa (.tmp (pth 3)) 8), opAt P 67 7 1, (some (pth 30)), none⟩,
⟨.slow, opAt P 67 7 2, (some (pth 31)), none⟩,
⟨(.call 26 [(.tmp (pth 29)), (.tmp (pth 31))]), opAt P 67 7 3, (some (pth 32)), none⟩])
(.seq (.seqr [⟨(.ld 128 (.tmp (pth 3))), opAt P 67 8 0, (some (pth 33)), none⟩,
⟨(.st 128 (.tmp (pth 2)) (.tmp (pth 33))), opAt P 67 8 1, none, none⟩])
.ret))))))))), [.cell (pth 2) 128]⟩
theorem cf67_ok : cFn Tryd.prog 67 = some (cf67 Tryd.prog) := by kernel_rfl
def cf68 (P : Program) : FF := ⟨84, (.seq (.seqr [⟨.slow, opAt P 68 0 0, (some (pth 1)), none⟩,
⟨(.mv (.val (.bool false))), opAt P 68 0 1, (some (pth 2)), none⟩])
(.seq (.seq (.seqr [⟨(.fa (.tmp (pth 1)) 0), opAt P 68 1 0, (some (pth 10)), none⟩,
⟨(.ld 3 (.tmp (pth 10))), opAt P 68 1 1, (some (pth 11)), none⟩,
⟨(.call 77 [(.tmp (pth 11)), (.val (.int .i64 (1))), (.val (.int .i64 (1099511627776)))]), opAt P 68 1 2, (some (pth 12)), none⟩,
⟨(.un .not (.tmp (pth 12))), opAt P 68 1 3, (some (pth 13)), none⟩,
⟨(.mv (.tmp (pth 13))), opAt P 68 1 4, (some (pth 14)), none⟩,
⟨(.fa (.tmp (pth 1)) 1), opAt P 68 1 5, (some (pth 15)), (some ((pth 14), false))⟩,
⟨(.ld 3 (.tmp (pth 15))), opAt P 68 1 6, (some (pth 16)), (some ((pth 14), false))⟩,
⟨(.call 77 [(.tmp (pth 16)), (.val (.int .i64 (1))), (.val (.int .i64 (1099511627776)))]), opAt P 68 1 7, (some (pth 17)), (some ((pth 14), false))⟩,
⟨(.un .not (.tmp (pth 17))), opAt P 68 1 8, (some (pth 18)), (some ((pth 14), false))⟩,
⟨(.pick (.tmp (pth 14)) (.val (.bool true)) (.tmp (pth 18))), opAt P 68 1 9, (some (pth 19)), none⟩,
⟨(.mv (.tmp (pth 19))), opAt P 68 1 10, (some (pth 20)), none⟩,
⟨(.fa (.tmp (pth 1)) 2), opAt P 68 1 11, (some (pth 21)), (some ((pth 20), false))⟩,
⟨(.ld 56 (.tmp (pth 21))), opAt P 68 1 12, (some (pth 22)), (some ((pth 20), false))⟩,
⟨.slow, opAt P 68 1 13, (some (pth 23)), (some ((pth 20), false))⟩,
⟨(.bin .gtr (.tmp (pth 23)) (.val (.int .i64 (16)))), opAt P 68 1 14, (some (pth 24)), (some ((pth 20), false))⟩,
⟨(.pick (.tmp (pth 20)) (.val (.bool true)) (.tmp (pth 24))), opAt P 68 1 15, (some (pth 25)), none⟩])
(.cond (.tmp (pth 25)) (.seq (.seqr [⟨(.mv (.val (.bool false))), opAt P 68 2 0, (some (pth 2)), none⟩])
.ret)
.skip))
(.seq (.seqr [⟨(.mv (.val (.slice none 0 0))), opAt P 68 3 0, (some (pth 3)), none⟩])
(.seq (.seqr [⟨.slow, opAt P 68 4 0, (some (pth 26)), none⟩,
⟨(.mv (.tmp (pth 26))), opAt P 68 4 1, (some (pth 4)), none⟩])
(.seq (.seq (.seqr [⟨(.fa (.tmp (pth 1)) 2), opAt P 68 5 0, (some (pth 27)), none⟩,
⟨(.ld 56 (.tmp (pth 27))), opAt P 68 5 1, (some (pth 28)), none⟩,
⟨.slow, opAt P 68 5 2, (some (pth 29)), none⟩,
⟨(.mv (.val (.int .i64 (0)))), opAt P 68 5 3, (some (pth 30)), none⟩])
(.block 0 (.loop (.seq (.seqr [⟨(.bin .lss (.tmp (pth 30)) (.tmp (pth 29))), opAt P 68 6 0, (some (pth 31)), none⟩])
(.seq (.cond (.tmp (pth 31)) .skip
(.exit 0))
(.seq (.block 1 (.seq (.seqr [⟨(.ia (.tmp (pth 28)) (.tmp (pth 30)) 9), opAt P 68 7 0, (some (pth 32)), none⟩,
⟨(.ld 128 (.tmp (pth 32))), opAt P 68 7 1, (some (pth 33)), none⟩,
⟨.slow, opAt P 68 7 2, (some (pth 6)), none⟩,
⟨(.st 128 (.tmp (pth 6)) (.tmp (pth 33))), opAt P 68 7 3, none, none⟩])
(.seq (.seqr [⟨(.mv (.tmp (pth 3))), opAt P 68 8 0, (some (pth 34)), none⟩,
⟨(.fa (.tmp (pth 6)) 1), opAt P 68 8 1, (some (pth 35)), none⟩,
⟨(.ld 51 (.tmp (pth 35))), opAt P 68 8 2, (some (pth 36)), none⟩,
⟨.slow, opAt P 68 8 3, (some (pth 37)), none⟩,
⟨.slow, opAt P 68 8 4, (some (pth 38)), none⟩,
⟨(.mv (.tmp (pth 38))), opAt P 68 8 5, (some (pth 3)), none⟩])
(.seq (.seqr [⟨(.mv (.tmp (pth 4))), opAt P 68 9 0, (some (pth 39)), none⟩,
⟨(.fa (.tmp (pth 6)) 0), opAt P 68 9 1, (some (pth 40)), none⟩,
⟨(.ld 3 (.tmp (pth 40))), opAt P 68 9 2, (some (pth 41)), none⟩,
⟨.slow, opAt P 68 9 3, (some (pth 42)), none⟩,
⟨(.bin .add (.tmp (pth 42)) (.val (.int .i64 (1)))), opAt P 68 9 4, (some (pth 43)), none⟩,
⟨.slow, opAt P 68 9 5, none, none⟩])
(.seq (.seqr [⟨(.fa (.tmp (pth 6)) 5), opAt P 68 10 0, (some (pth 44)), none⟩,
⟨(.ld 3 (.tmp (pth 44))), opAt P 68 10 1, (some (pth 45)), none⟩,
⟨(.bin .eql (.tmp (pth 45)) (.val (.int .i64 (1)))), opAt P 68 10 2, (some (pth 46)), none⟩])
(.cond (.tmp (pth 46)) (.seqr [⟨(.mv (.tmp (pth 4))), opAt P 68 11 0, (some (pth 47)), none⟩,
⟨(.fa (.tmp (pth 6)) 8), opAt P 68 11 1, (some (pth 48)), none⟩,
⟨(.ld 3 (.tmp (pth 48))), opAt P 68 11 2, (some (pth 49)), none⟩,
⟨.slow, opAt P 68 11 3, (some (pth 50)), none⟩,
⟨(.bin .add (.tmp (pth 50)) (.val (.int .i64 (1)))), opAt P 68 11 4, (some (pth 51)), none⟩,
⟨.slow, opAt P 68 11 5, none, none⟩])
.skip))))))
(.seqr [⟨(.bin .add (.tmp (pth 30)) (.val (.int .i64 (1)))), opAt P 68 12 0, (some (pth 52)), none⟩,
⟨(.mv (.tmp (pth 52))), opAt P 68 12 1, (some (pth 30)), none⟩])))))))
(.seq (.seq (.seqr [⟨(.mv (.tmp (pth 4))), opAt P 68 13 0, (some (pth 53)), none⟩,
⟨.slow, opAt P 68 13 1, (some (pth 54)), none⟩])
(.block 2 (.loop (.seq (.seqr [⟨.slow, opAt P 68 14 0, (some (pth 55)), none⟩,
⟨(.ext (.tmp (pth 55)) 0), opAt P 68 14 1, (some (pth 56)), none⟩])
(.seq (.cond (.tmp (pth 56)) .skip
(.exit 2))
(.block 3 (.seq (.seqr [⟨.slow, opAt P 68 15 0, (some (pth 57)), none⟩,
⟨(.ext (.tmp (pth 57)) 0), opAt P 68 15 1, (some (pth 58)), none⟩,
⟨(.ext (.tmp (pth 57)) 1), opAt P 68 15 2, (some (pth 59)), none⟩,
⟨(.mv (.tmp (pth 58))), opAt P 68 15 3, (some (pth 7)), none⟩,
⟨(.mv (.tmp (pth 59))), opAt P 68 15 4, (some (pth 8)), none⟩])
(.seq (.seqr [⟨(.mv (.tmp (pth 8))), opAt P 68 16 0, (some (pth 60)), none⟩,
⟨(.bin .gtr (.tmp (pth 60)) (.val (.int .i64 (1)))), opAt P 68 16 1, (some (pth 61)), none⟩,
⟨(.mv (.tmp (pth 61))), opAt P 68 16 2, (some (pth 62)), none⟩,
⟨(.mv (.tmp (pth 7))), opAt P 68 16 3, (some (pth 63)), (some ((pth 62), false))⟩,
⟨(.fa (.tmp (pth 1)) 1), opAt P 68 16 4, (some (pth 64)), (some ((pth 62), false))⟩,
⟨(.ld 3 (.tmp (pth 64))), opAt P 68 16 5, (some (pth 65)), (some ((pth 62), false))⟩,
⟨(.bin .sub (.tmp (pth 65)) (.val (.int .i64 (1)))), opAt P 68 16 6, (some (pth 66)), (some ((pth 62), false))⟩,
⟨(.call 77 [(.tmp (pth 63)), (.val (.int .i64 (1))), (.tmp (pth 66))]), opAt P 68 16 7, (some (pth 67)), (some ((pth 62), false))⟩,
⟨(.un .not (.tmp (pth 67))), opAt P 68 16 8, (some (pth 68)), (some ((pth 62), false))⟩,
⟨(.pick (.tmp (pth 62)) (.val (.bool true)) (.tmp (pth 68))), opAt P 68 16 9, (some (pth 69)), none⟩])
(.cond (.tmp (pth 69)) (.seq (.seqr [⟨(.mv (.val (.bool false))), opAt P 68 17 0, (some (pth 2)), none⟩])
.ret)
.skip)))))))))
(.seq (.seq (.seqr [⟨(.fa (.tmp (pth 1)) 2), opAt P 68 18 0, (some (pth 70)), none⟩,
⟨(.ld 56 (.tmp (pth 70))), opAt P 68 18 1, (some (pth 71)), none⟩,
⟨.slow, opAt P 68 18 2, (some (pth 72)), none⟩,
⟨(.mv (.val (.int .i64 (0)))), opAt P 68 18 3, (some (pth 73)), none⟩])
(.block 4 (.loop (.seq (.seqr [⟨(.bin .lss (.tmp (pth 73)) (.tmp (pth 72))), opAt P 68 19 0, (some (pth 74)), none⟩])
(.seq (.cond (.tmp (pth 74)) .skip
(.exit 4))
(.seq (.block 5 (.seq (.seqr [⟨(.mv (.tmp (pth 73))), opAt P 68 20 0, (some (pth 75)), none⟩,
⟨(.mv (.tmp (pth 75))), opAt P 68 20 1, (some (pth 9)), none⟩])
(.seq (.seqr [⟨(.fa (.tmp (pth 1)) 2), opAt P 68 21 0, (some (pth 76)), none⟩,
⟨(.ld 56 (.tmp (pth 76))), opAt P 68 21 1, (some (pth 77)), none⟩,
⟨(.mv (.tmp (pth 9))), opAt P 68 21 2, (some (pth 78)), none⟩,
⟨(.call 78 [(.tmp (pth 77)), (.tmp (pth 78))]), opAt P 68 21 3, (some (pth 79)), none⟩,
⟨(.un .not (.tmp (pth 79))), opAt P 68 21 4, (some (pth 80)), none⟩])
(.cond (.tmp (pth 80)) (.seq (.seqr [⟨(.mv (.val (.bool false))), opAt P 68 22 0, (some (pth 2)), none⟩])
.ret)
.skip))))
(.seqr [⟨(.bin .add (.tmp (pth 73)) (.val (.int .i64 (1)))), opAt P 68 23 0, (some (pth 81)), none⟩,
⟨(.mv (.tmp (pth 81))), opAt P 68 23 1, (some (pth 73)), none⟩])))))))
(.seq (.seqr [⟨(.mv (.tmp (pth 3))), opAt P 68 24 0, (some (pth 82)), none⟩,
⟨(.call 79 [(.tmp (pth 82))]), opAt P 68 24 1, (some (pth 83)), none⟩,
⟨(.mv (.tmp (pth 83))), opAt P 68 24 2, (some (pth 2)), none⟩])
.ret)))))))), [.tmp (pth 2)]⟩
theorem cf68_ok : cFn Tryd.prog 68 = some (cf68 Tryd.prog) := by kernel_rfl
def cf69 (P : Program) : FF := ⟨51, (.seq (.seqr [⟨.slow, opAt P 69 0 0, (some (pth 1)), none⟩,
⟨(.mv (.val (.bool false))), opAt P 69 0 1, (some (pth 2)), none⟩])
(.seq (.seqr [⟨(.fa (.tmp (pth 1)) 0), opAt P 69 1 0, (some (pth 5)), none⟩,
⟨(.ld 3 (.tmp (pth 5))), opAt P 69 1 1, (some (pth 6)), none⟩,
⟨(.fa (.tmp (pth 1)) 1), opAt P 69 1 2, (some (pth 7)), none⟩,
⟨(.ld 3 (.tmp (pth 7))), opAt P 69 1 3, (some (pth 8)), none⟩,
⟨.slow, opAt P 69 1 4, (some (pth 9)), none⟩,
⟨.slow, opAt P 69 1 5, (some (pth 3)), none⟩,
⟨(.st 60 (.tmp (pth 3)) (.tmp (pth 9))), opAt P 69 1 6, none, none⟩])
(.seq (.seqr [⟨(.mv (.val (.bool false))), opAt P 69 2 0, (some (pth 4)), none⟩])
(.seq (.seq (.seqr [⟨(.fa (.tmp (pth 1)) 0), opAt P 69 3 0, (some (pth 10)), none⟩,
⟨(.ld 3 (.tmp (pth 10))), opAt P 69 3 1, (some (pth 11)), none⟩])
(.block 0 (.seq (.seqr [⟨(.bin .eql (.tmp (pth 11)) (.val (.int .i64 (1)))), opAt P 69 4 0, (some (pth 13)), none⟩,
⟨(.mv (.tmp (pth 13))), opAt P 69 4 1, (some (pth 12)), none⟩])
(.cond (.tmp (pth 12)) (.seq (.seqr [⟨(.fa (.tmp (pth 1)) 4), opAt P 69 5 0, (some (pth 14)), none⟩,
⟨(.ld 9 (.tmp (pth 14))), opAt P 69 5 1, (some (pth 15)), none⟩,
⟨(.fa (.tmp (pth 3)) 4), opAt P 69 5 2, (some (pth 16)), none⟩,
⟨(.st 9 (.tmp (pth 16)) (.tmp (pth 15))), opAt P 69 5 3, none, none⟩])
(.seqr [⟨(.fa (.tmp (pth 1)) 4), opAt P 69 6 0, (some (pth 17)), none⟩,
⟨(.ld 9 (.tmp (pth 17))), opAt P 69 6 1, (some (pth 18)), none⟩,
⟨.slow, opAt P 69 6 2, (some (pth 19)), none⟩,
⟨(.call 77 [(.tmp (pth 19)), (.val (.int .i64 (1))), (.val (.int .i64 (16)))]), opAt P 69 6 3, (some (pth 20)), none⟩,
⟨(.mv (.tmp (pth 20))), opAt P 69 6 4, (some (pth 4)), none⟩]))
(.seq (.seqr [⟨(.bin .eql (.tmp (pth 11)) (.val (.int .i64 (2)))), opAt P 69 7 0, (some (pth 22)), none⟩,
⟨(.mv (.tmp (pth 22))), opAt P 69 7 1, (some (pth 21)), none⟩])
(.cond (.tmp (pth 21)) (.seqr [⟨(.mv (.val (.bool true))), opAt P 69 8 0, (some (pth 4)), none⟩])
(.seq (.seqr [⟨(.bin .eql (.tmp (pth 11)) (.val (.int .i64 (3)))), opAt P 69 9 0, (some (pth 24)), none⟩,
⟨(.mv (.tmp (pth 24))), opAt P 69 9 1, (some (pth 23)), none⟩])
(.cond (.tmp (pth 23)) (.seq (.seqr [⟨(.fa (.tmp (pth 1)) 3), opAt P 69 10 0, (some (pth 25)), none⟩,
⟨(.ld 3 (.tmp (pth 25))), opAt P 69 10 1, (some (pth 26)), none⟩,
⟨(.fa (.tmp (pth 3)) 3), opAt P 69 10 2, (some (pth 27)), none⟩,
⟨(.st 3 (.tmp (pth 27)) (.tmp (pth 26))), opAt P 69 10 3, none, none⟩])
(.seqr [⟨(.fa (.tmp (pth 1)) 3), opAt P 69 11 0, (some (pth 28)), none⟩,
⟨(.ld 3 (.tmp (pth 28))), opAt P 69 11 1, (some (pth 29)), none⟩,
⟨(.call 77 [(.tmp (pth 29)), (.val (.int .i64 (1))), (.val (.int .i64 (1048576)))]), opAt P 69 11 2, (some (pth 30)), none⟩,
⟨(.mv (.tmp (pth 30))), opAt P 69 11 3, (some (pth 4)), none⟩]))
(.seq (.seq (.seqr [⟨(.bin .eql (.tmp (pth 11)) (.val (.int .i64 (4)))), opAt P 69 12 0, (some (pth 32)), none⟩,
⟨(.mv (.tmp (pth 32))), opAt P 69 12 1, (some (pth 31)), none⟩])
(.cond (.tmp (pth 31)) .skip
(.seqr [⟨(.bin .eql (.tmp (pth 11)) (.val (.int .i64 (5)))), opAt P 69 13 0, (some (pth 33)), none⟩,
⟨(.mv (.tmp (pth 33))), opAt P 69 13 1, (some (pth 31)), none⟩])))
(.cond (.tmp (pth 31)) (.seq (.seqr [⟨(.fa (.tmp (pth 1)) 2), opAt P 69 14 0, (some (pth 34)), none⟩,
⟨(.ld 3 (.tmp (pth 34))), opAt P 69 14 1, (some (pth 35)), none⟩,
⟨(.fa (.tmp (pth 3)) 2), opAt P 69 14 2, (some (pth 36)), none⟩,
⟨(.st 3 (.tmp (pth 36)) (.tmp (pth 35))), opAt P 69 14 3, none, none⟩])
(.seqr [⟨(.fa (.tmp (pth 1)) 2), opAt P 69 15 0, (some (pth 37)), none⟩,
⟨(.ld 3 (.tmp (pth 37))), opAt P 69 15 1, (some (pth 38)), none⟩,
⟨(.call 77 [(.tmp (pth 38)), (.val (.int .i64 (1))), (.val (.int .i64 (1099511627776)))]), opAt P 69 15 2, (some (pth 39)), none⟩,
⟨(.mv (.tmp (pth 39))), opAt P 69 15 3, (some (pth 4)), none⟩]))
.skip))))))))))
(.seq (.seqr [⟨(.mv (.tmp (pth 4))), opAt P 69 16 0, (some (pth 40)), none⟩,
⟨(.mv (.tmp (pth 40))), opAt P 69 16 1, (some (pth 41)), none⟩,
⟨(.fa (.tmp (pth 1)) 1), opAt P 69 16 2, (some (pth 42)), (some ((pth 41), true))⟩,
⟨(.ld 3 (.tmp (pth 42))), opAt P 69 16 3, (some (pth 43)), (some ((pth 41), true))⟩,
⟨(.call 77 [(.tmp (pth 43)), (.val (.int .i64 (1))), (.val (.int .i64 (1099511627776)))]), opAt P 69 16 4, (some (pth 44)), (some ((pth 41), true))⟩,
⟨(.pick (.tmp (pth 41)) (.tmp (pth 44)) (.val (.bool false))), opAt P 69 16 5, (some (pth 45)), none⟩,
⟨(.mv (.tmp (pth 45))), opAt P 69 16 6, (some (pth 46)), none⟩,
⟨(.ld 60 (.tmp (pth 3))), opAt P 69 16 7, (some (pth 47)), (some ((pth 46), true))⟩,
⟨(.ld 60 (.tmp (pth 1))), opAt P 69 16 8, (some (pth 48)), (some ((pth 46), true))⟩,
⟨(.bin .eql (.tmp (pth 47)) (.tmp (pth 48))), opAt P 69 16 9, (some (pth 49)), (some ((pth 46), true))⟩,
⟨(.pick (.tmp (pth 46)) (.tmp (pth 49)) (.val (.bool false))), opAt P 69 16 10, (some (pth 50)), none⟩,
⟨(.mv (.tmp (pth 50))), opAt P 69 16 11, (some (pth 2)), none⟩])
.ret))))), [.tmp (pth 2)]⟩
theorem cf69_ok : cFn Tryd.prog 69 = some (cf69 Tryd.prog) := by kernel_rfl
def cf70 (P : Program) : FF := ⟨21, (.seq (.seqr [⟨.slow, opAt P 70 0 0, (some (pth 1)), none⟩,
⟨(.mv (.val (.bool false))), opAt P 70 0 1, (some (pth 2)), none⟩])
(.seq (.seqr [⟨(.fa (.tmp (pth 1)) 0), opAt P 70 1 0, (some (pth 3)), none⟩,
⟨(.ld 32 (.tmp (pth 3))), opAt P 70 1 1, (some (pth 4)), none⟩,
⟨(.bin .geq (.tmp (pth 4)) (.val (.int .i64 (0)))), opAt P 70 1 2, (some (pth 5)), none⟩,
⟨(.mv (.tmp (pth 5))), opAt P 70 1 3, (some (pth 6)), none⟩,
⟨(.fa (.tmp (pth 1)) 0), opAt P 70 1 4, (some (pth 7)), (some ((pth 6), true))⟩,
⟨(.ld 32 (.tmp (pth 7))), opAt P 70 1 5, (some (pth 8)), (some ((pth 6), true))⟩,
⟨(.bin .leq (.tmp (pth 8)) (.val (.int .i64 (19)))), opAt P 70 1 6, (some (pth 9)), (some ((pth 6), true))⟩,
⟨(.pick (.tmp (pth 6)) (.tmp (pth 9)) (.val (.bool false))), opAt P 70 1 7, (some (pth 10)), none⟩,
⟨(.mv (.tmp (pth 10))), opAt P 70 1 8, (some (pth 11)), none⟩,
⟨(.fa (.tmp (pth 1)) 1), opAt P 70 1 9, (some (pth 12)), (some ((pth 11), true))⟩,
⟨(.ld 3 (.tmp (pth 12))), opAt P 70 1 10, (some (pth 13)), (some ((pth 11), true))⟩,
⟨(.call 21 [(.tmp (pth 13)), (.val (.int .i64 (0))), (.val (.int .i64 (1099511627776)))]), opAt P 70 1 11, (some (pth 14)), (some ((pth 11), true))⟩,
⟨(.pick (.tmp (pth 11)) (.tmp (pth 14)) (.val (.bool false))), opAt P 70 1 12, (some (pth 15)), none⟩,
⟨(.mv (.tmp (pth 15))), opAt P 70 1 13, (some (pth 16)), none⟩,
⟨(.fa (.tmp (pth 1)) 2), opAt P 70 1 14, (some (pth 17)), (some ((pth 16), true))⟩,
⟨(.ld 53 (.tmp (pth 17))), opAt P 70 1 15, (some (pth 18)), (some ((pth 16), true))⟩,
⟨(.call 80 [(.tmp (pth 18))]), opAt P 70 1 16, (some (pth 19)), (some ((pth 16), true))⟩,
⟨(.pick (.tmp (pth 16)) (.tmp (pth 19)) (.val (.bool false))), opAt P 70 1 17, (some (pth 20)), none⟩,
⟨(.mv (.tmp (pth 20))), opAt P 70 1 18, (some (pth 2)), none⟩])
.ret)), [.tmp (pth 2)]⟩
theorem cf70_ok : cFn Tryd.prog 70 = some (cf70 Tryd.prog) := by kernel_rfl
def cf71 (P : Program) : FF := ⟨57, (.seq (.seqr [⟨.slow, opAt P 71 0 0, (some (pth 1)), none⟩,
⟨(.mv (.val (.slice none 0 0))), opAt P 71 0 1, (some (pth 2)), none⟩])
(.seq (.seqr [⟨.slow, opAt P 71 1 0, (some (pth 3)), none⟩])
(.seq (.seqr [⟨(.fa (.tmp (pth 1)) 0), opAt P 71 2 0, (some (pth 6)), none⟩,
⟨(.ld 3 (.tmp (pth 6))), opAt P 71 2 1, (some (pth 7)), none⟩,
⟨(.fa (.tmp (pth 1)) 1), opAt P 71 2 2, (some (pth 8)), none⟩,
⟨(.ld 3 (.tmp (pth 8))), opAt P 71 2 3, (some (pth 9)), none⟩,
⟨(.fa (.tmp (pth 1)) 2), opAt P 71 2 4, (some (pth 10)), none⟩,
⟨(.ld 56 (.tmp (pth 10))), opAt P 71 2 5, (some (pth 11)), none⟩,
⟨.slow, opAt P 71 2 6, (some (pth 12)), none⟩,
⟨.slow, opAt P 71 2 7, (some (pth 13)), none⟩,
⟨(.call 36 [(.tmp (pth 3)), (.tmp (pth 13))]), opAt P 71 2 8, (some (pth 14)), none⟩])
(.seq (.seq (.seqr [⟨(.fa (.tmp (pth 1)) 2), opAt P 71 3 0, (some (pth 15)), none⟩,
⟨(.ld 56 (.tmp (pth 15))), opAt P 71 3 1, (some (pth 16)), none⟩,
⟨.slow, opAt P 71 3 2, (some (pth 17)), none⟩,
⟨(.mv (.val (.int .i64 (0)))), opAt P 71 3 3, (some (pth 18)), none⟩])
(.block 0 (.loop (.seq (.seqr [⟨(.bin .lss (.tmp (pth 18)) (.tmp (pth 17))), opAt P 71 4 0, (some (pth 19)), none⟩])
(.seq (.cond (.tmp (pth 19)) .skip
(.exit 0))
(.seq (.block 1 (.seq (.seqr [⟨(.ia (.tmp (pth 16)) (.tmp (pth 18)) 9), opAt P 71 5 0, (some (pth 20)), none⟩,
⟨(.ld 128 (.tmp (pth 20))), opAt P 71 5 1, (some (pth 21)), none⟩,
⟨.slow, opAt P 71 5 2, (some (pth 5)), none⟩,
⟨(.st 128 (.tmp (pth 5)) (.tmp (pth 21))), opAt P 71 5 3, none, none⟩])
(.seq (.seqr [⟨(.fa (.tmp (pth 5)) 0), opAt P 71 6 0, (some (pth 22)), none⟩,
⟨(.ld 3 (.tmp (pth 22))), opAt P 71 6 1, (some (pth 23)), none⟩,
⟨.slow, opAt P 71 6 2, (some (pth 24)), none⟩,
⟨(.call 36 [(.tmp (pth 3)), (.tmp (pth 24))]), opAt P 71 6 3, (some (pth 25)), none⟩])
(.seq (.seqr [⟨(.fa (.tmp (pth 5)) 1), opAt P 71 7 0, (some (pth 26)), none⟩,
⟨(.fa (.tmp (pth 26)) 0), opAt P 71 7 1, (some (pth 27)), none⟩,
⟨(.ld 9 (.tmp (pth 27))), opAt P 71 7 2, (some (pth 28)), none⟩,
⟨.slow, opAt P 71 7 3, (some (pth 29)), none⟩,
⟨(.fa (.tmp (pth 5)) 1), opAt P 71 7 4, (some (pth 30)), none⟩,
⟨(.fa (.tmp (pth 30)) 1), opAt P 71 7 5, (some (pth 31)), none⟩,
⟨(.ld 9 (.tmp (pth 31))), opAt P 71 7 6, (some (pth 32)), none⟩,
⟨.slow, opAt P 71 7 7, (some (pth 33)), none⟩,
⟨.slow, opAt P 71 7 8, (some (pth 34)), none⟩,
⟨(.call 37 [(.tmp (pth 3)), (.tmp (pth 34))]), opAt P 71 7 9, (some (pth 35)), none⟩])
(.seq (.seqr [⟨(.fa (.tmp (pth 5)) 3), opAt P 71 8 0, (some (pth 36)), none⟩,
⟨(.ld 3 (.tmp (pth 36))), opAt P 71 8 1, (some (pth 37)), none⟩,
⟨(.fa (.tmp (pth 5)) 4), opAt P 71 8 2, (some (pth 38)), none⟩,
⟨(.ld 3 (.tmp (pth 38))), opAt P 71 8 3, (some (pth 39)), none⟩,
⟨(.fa (.tmp (pth 5)) 5), opAt P 71 8 4, (some (pth 40)), none⟩,
⟨(.ld 3 (.tmp (pth 40))), opAt P 71 8 5, (some (pth 41)), none⟩,
⟨(.fa (.tmp (pth 5)) 6), opAt P 71 8 6, (some (pth 42)), none⟩,
⟨(.ld 3 (.tmp (pth 42))), opAt P 71 8 7, (some (pth 43)), none⟩,
⟨.slow, opAt P 71 8 8, (some (pth 44)), none⟩,
⟨(.call 36 [(.tmp (pth 3)), (.tmp (pth 44))]), opAt P 71 8 9, (some (pth 45)), none⟩])
(.seq (.seqr [⟨(.fa (.tmp (pth 5)) 7), opAt P 71 9 0, (some (pth 46)), none⟩,
⟨(.ld 9 (.tmp (pth 46))), opAt P 71 9 1, (some (pth 47)), none⟩,
⟨.slow, opAt P 71 9 2, (some (pth 48)), none⟩,
⟨.slow, opAt P 71 9 3, (some (pth 49)), none⟩,
⟨(.call 37 [(.tmp (pth 3)), (.tmp (pth 49))]), opAt P 71 9 4, (some (pth 50)), none⟩])
(.seqr [⟨(.fa (.tmp (pth 5)) 8), opAt P 71 10 0, (some (pth 51)), none⟩,
⟨(.ld 3 (.tmp (pth 51))), opAt P 71 10 1, (some (pth 52)), none⟩,
⟨.slow, opAt P 71 10 2, (some (pth 53)), none⟩,
⟨(.call 36 [(.tmp (pth 3)), (.tmp (pth 53))]), opAt P 71 10 3, (some (pth 54)), none⟩])))))))
(.seqr [⟨(.bin .add (.tmp (pth 18)) (.val (.int .i64 (1)))), opAt P 71 11 0, (some (pth 55)), none⟩,
⟨(.mv (.tmp (pth 55))), opAt P 71 11 1, (some (pth 18)), none⟩])))))))
(.seq (.seqr [⟨(.call 40 [(.tmp (pth 3))]), opAt P 71 12 0, (some (pth 56)), none⟩,
⟨(.mv (.tmp (pth 56))), opAt P 71 12 1, (some (pth 2)), none⟩])
.ret))))), [.tmp (pth 2)]⟩
theorem cf71_ok : cFn Tryd.prog 71 = some (cf71 Tryd.prog) := by kernel_rfl
def cf72 (P : Program) : FF := ⟨24, (.seq (.seqr [⟨.slow, opAt P 72 0 0, (some (pth 2)), none⟩,
⟨.slow, opAt P 72 0 1, (some (pth 3)), none⟩,
⟨(.mv (.val (.bool false))), opAt P 72 0 2, (some (pth 4)), none⟩])
(.seq (.seqr [⟨(.fa (.tmp (pth 2)) 0), opAt P 72 1 0, (some (pth 5)), none⟩,
⟨(.ld 3 (.tmp (pth 5))), opAt P 72 1 1, (some (pth 6)), none⟩,
⟨(.fa (.tmp (pth 3)) 0), opAt P 72 1 2, (some (pth 7)), none⟩,
⟨(.ld 3 (.tmp (pth 7))), opAt P 72 1 3, (some (pth 8)), none⟩,
⟨(.bin .eql (.tmp (pth 6)) (.tmp (pth 8))), opAt P 72 1 4, (some (pth 9)), none⟩,
⟨(.mv (.tmp (pth 9))), opAt P 72 1 5, (some (pth 10)), none⟩,
⟨(.fa (.tmp (pth 2)) 1), opAt P 72 1 6, (some (pth 11)), (some ((pth 10), true))⟩,
⟨(.ld 3 (.tmp (pth 11))), opAt P 72 1 7, (some (pth 12)), (some ((pth 10), true))⟩,
⟨(.fa (.tmp (pth 3)) 1), opAt P 72 1 8, (some (pth 13)), (some ((pth 10), true))⟩,
⟨(.ld 3 (.tmp (pth 13))), opAt P 72 1 9, (some (pth 14)), (some ((pth 10), true))⟩,
⟨(.bin .eql (.tmp (pth 12)) (.tmp (pth 14))), opAt P 72 1 10, (some (pth 15)), (some ((pth 10), true))⟩,
⟨(.pick (.tmp (pth 10)) (.tmp (pth 15)) (.val (.bool false))), opAt P 72 1 11, (some (pth 16)), none⟩,
⟨(.mv (.tmp (pth 16))), opAt P 72 1 12, (some (pth 17)), none⟩,
⟨(.fa (.tmp (pth 2)) 2), opAt P 72 1 13, (some (pth 18)), (some ((pth 17), true))⟩,
⟨(.ld 56 (.tmp (pth 18))), opAt P 72 1 14, (some (pth 19)), (some ((pth 17), true))⟩,
⟨(.fa (.tmp (pth 3)) 2), opAt P 72 1 15, (some (pth 20)), (some ((pth 17), true))⟩,
⟨(.ld 56 (.tmp (pth 20))), opAt P 72 1 16, (some (pth 21)), (some ((pth 17), true))⟩,
⟨(.call 81 [(.tmp (pth 19)), (.tmp (pth 21))]), opAt P 72 1 17, (some (pth 22)), (some ((pth 17), true))⟩,
⟨(.pick (.tmp (pth 17)) (.tmp (pth 22)) (.val (.bool false))), opAt P 72 1 18, (some (pth 23)), none⟩,
⟨(.mv (.tmp (pth 23))), opAt P 72 1 19, (some (pth 4)), none⟩])
.ret)), [.tmp (pth 4)]⟩
theorem cf72_ok : cFn Tryd.prog 72 = some (cf72 Tryd.prog) := by kernel_rfl
def cf73 (P : Program) : FF := ⟨18, (.seq (.seqr [⟨.slow, opAt P 73 0 0, (some (pth 1)), none⟩,
⟨(.mv (.val (.slice none 0 0))), opAt P 73 0 1, (some (pth 2)), none⟩,
⟨(.mv (.val (.int .i64 (0)))), opAt P 73 0 2, (some (pth 3)), none⟩])
(.seq (.seq (.seqr [⟨(.ld 55 (.tmp (pth 1))), opAt P 73 1 0, (some (pth 5)), none⟩,
⟨(.call 70 [(.tmp (pth 5))]), opAt P 73 1 1, (some (pth 6)), none⟩,
⟨(.un .not (.tmp (pth 6))), opAt P 73 1 2, (some (pth 7)), none⟩])
(.cond (.tmp (pth 7)) (.seq (.seqr [⟨(.mv (.val (.slice none 0 0))), opAt P 73 2 0, (some (pth 2)), none⟩,
⟨(.mv (.val (.int .i64 (1)))), opAt P 73 2 1, (some (pth 3)), none⟩])
.ret)
.skip))
(.seq (.seqr [⟨.slow, opAt P 73 3 0, (some (pth 4)), none⟩])
(.seq (.seqr [⟨(.fa (.tmp (pth 1)) 0), opAt P 73 4 0, (some (pth 8)), none⟩,
⟨(.ld 32 (.tmp (pth 8))), opAt P 73 4 1, (some (pth 9)), none⟩,
⟨(.fa (.tmp (pth 1)) 1), opAt P 73 4 2, (some (pth 10)), none⟩,
⟨(.ld 3 (.tmp (pth 10))), opAt P 73 4 3, (some (pth 11)), none⟩,
⟨.slow, opAt P 73 4 4, (some (pth 12)), none⟩,
⟨(.call 36 [(.tmp (pth 4)), (.tmp (pth 12))]), opAt P 73 4 5, (some (pth 13)), none⟩])
(.seq (.seqr [⟨(.fa (.tmp (pth 1)) 2), opAt P 73 5 0, (some (pth 14)), none⟩,
⟨.slow, opAt P 73 5 1, (some (pth 15)), none⟩,
⟨(.call 36 [(.tmp (pth 4)), (.tmp (pth 15))]), opAt P 73 5 2, (some (pth 16)), none⟩])
(.seq (.seqr [⟨(.call 40 [(.tmp (pth 4))]), opAt P 73 6 0, (some (pth 17)), none⟩,
⟨(.mv (.tmp (pth 17))), opAt P 73 6 1, (some (pth 2)), none⟩,
⟨(.mv (.val (.int .i64 (0)))), opAt P 73 6 2, (some (pth 3)), none⟩])
.ret)))))), [.tmp (pth 2), .tmp (pth 3)]⟩
theorem cf73_ok : cFn Tryd.prog 73 = some (cf73 Tryd.prog) := by kernel_rfl
def cf74 (P : Program) : FF := ⟨25, (.seq (.seqr [⟨.slow, opAt P 74 0 0, (some (pth 1)), none⟩,
⟨(.mv (.val (.bool false))), opAt P 74 0 1, (some (pth 2)), none⟩])
(.seq (.seqr [⟨(.fa (.tmp (pth 1)) 0), opAt P 74 1 0, (some (pth 3)), none⟩,
⟨(.ld 9 (.tmp (pth 3))), opAt P 74 1 1, (some (pth 4)), none⟩,
⟨.slow, opAt P 74 1 2, (some (pth 5)), none⟩,
⟨(.bin .leq (.tmp (pth 5)) (.val (.int .i64 (16)))), opAt P 74 1 3, (some (pth 6)), none⟩,
⟨(.mv (.tmp (pth 6))), opAt P 74 1 4, (some (pth 7)), none⟩,
⟨(.fa (.tmp (pth 1)) 1), opAt P 74 1 5, (some (pth 8)), (some ((pth 7), true))⟩,
⟨(.ld 9 (.tmp (pth 8))), opAt P 74 1 6, (some (pth 9)), (some ((pth 7), true))⟩,
⟨.slow, opAt P 74 1 7, (some (pth 10)), (some ((pth 7), true))⟩,
⟨(.bin .leq (.tmp (pth 10)) (.val (.int .i64 (16)))), opAt P 74 1 8, (some (pth 11)), (some ((pth 7), true))⟩,
⟨(.pick (.tmp (pth 7)) (.tmp (pth 11)) (.val (.bool false))), opAt P 74 1 9, (some (pth 12)), none⟩,
⟨(.mv (.tmp (pth 12))), opAt P 74 1 10, (some (pth 13)), none⟩,
⟨(.fa (.tmp (pth 1)) 1), opAt P 74 1 11, (some (pth 14)), (some ((pth 13), true))⟩,
⟨(.ld 9 (.tmp (pth 14))), opAt P 74 1 12, (some (pth 15)), (some ((pth 13), true))⟩,
⟨(.bin .eql (.tmp (pth 15)) (.val (.string ⟨#[]⟩))), opAt P 74 1 13, (some (pth 16)), (some ((pth 13), true))⟩,
⟨(.mv (.tmp (pth 16))), opAt P 74 1 14, (some (pth 17)), (some ((pth 13), true))⟩,
⟨(.fa (.tmp (pth 1)) 1), opAt P 74 1 15, (some (pth 18)), (some ((pth 17), false))⟩,
⟨(.ld 9 (.tmp (pth 18))), opAt P 74 1 16, (some (pth 19)), (some ((pth 17), false))⟩,
⟨(.fa (.tmp (pth 1)) 0), opAt P 74 1 17, (some (pth 20)), (some ((pth 17), false))⟩,
⟨(.ld 9 (.tmp (pth 20))), opAt P 74 1 18, (some (pth 21)), (some ((pth 17), false))⟩,
⟨(.bin .gtr (.tmp (pth 19)) (.tmp (pth 21))), opAt P 74 1 19, (some (pth 22)), (some ((pth 17), false))⟩,
⟨(.pick (.tmp (pth 17)) (.val (.bool true)) (.tmp (pth 22))), opAt P 74 1 20, (some (pth 23)), (some ((pth 13), true))⟩,
⟨(.pick (.tmp (pth 13)) (.tmp (pth 23)) (.val (.bool false))), opAt P 74 1 21, (some (pth 24)), none⟩,
⟨(.mv (.tmp (pth 24))), opAt P 74 1 22, (some (pth 2)), none⟩])
.ret)), [.tmp (pth 2)]⟩
theorem cf74_ok : cFn Tryd.prog 74 = some (cf74 Tryd.prog) := by kernel_rfl
def cf75 (P : Program) : FF := ⟨26, (.seq (.seqr [⟨(.mv (.val (.bool false))), opAt P 75 0 0, (some (pth 4)), none⟩])
(.seq (.seq (.seqr [⟨(.mv (.tmp (pth 0))), opAt P 75 1 0, (some (pth 6)), none⟩,
⟨.slow, opAt P 75 1 1, (some (pth 7)), none⟩,
⟨(.mv (.tmp (pth 1))), opAt P 75 1 2, (some (pth 8)), none⟩,
⟨.slow, opAt P 75 1 3, (some (pth 9)), none⟩,
⟨(.bin .neq (.tmp (pth 7)) (.tmp (pth 9))), opAt P 75 1 4, (some (pth 10)), none⟩])
(.cond (.tmp (pth 10)) (.seq (.seqr [⟨(.mv (.val (.bool false))), opAt P 75 2 0, (some (pth 4)), none⟩])
.ret)
.skip))
(.seq (.seq (.seqr [⟨(.mv (.tmp (pth 0))), opAt P 75 3 0, (some (pth 11)), none⟩,
⟨.slow, opAt P 75 3 1, (some (pth 12)), none⟩,
⟨(.mv (.val (.int .i64 (0)))), opAt P 75 3 2, (some (pth 13)), none⟩])
(.block 0 (.loop (.seq (.seqr [⟨(.bin .lss (.tmp (pth 13)) (.tmp (pth 12))), opAt P 75 4 0, (some (pth 14)), none⟩])
(.seq (.cond (.tmp (pth 14)) .skip
(.exit 0))
(.seq (.block 1 (.seq (.seqr [⟨(.mv (.tmp (pth 13))), opAt P 75 5 0, (some (pth 15)), none⟩,
⟨(.mv (.tmp (pth 15))), opAt P 75 5 1, (some (pth 5)), none⟩])
(.seq (.reg [⟨(.mv (.tmp (pth 0))), opAt P 75 6 0, (some (pth 16)), none⟩,
⟨(.mv (.tmp (pth 5))), opAt P 75 6 1, (some (pth 17)), none⟩,
⟨(.ia (.tmp (pth 16)) (.tmp (pth 17)) 1), opAt P 75 6 2, (some (pth 18)), none⟩,
⟨(.ld 5 (.tmp (pth 18))), opAt P 75 6 3, (some (pth 19)), none⟩,
⟨(.mv (.tmp (pth 1))), opAt P 75 6 4, (some (pth 20)), none⟩,
⟨(.mv (.tmp (pth 5))), opAt P 75 6 5, (some (pth 21)), none⟩,
⟨(.ia (.tmp (pth 20)) (.tmp (pth 21)) 1), opAt P 75 6 6, (some (pth 22)), none⟩,
⟨(.ld 5 (.tmp (pth 22))), opAt P 75 6 7, (some (pth 23)), none⟩,
⟨(.bin .neq (.tmp (pth 19)) (.tmp (pth 23))), opAt P 75 6 8, (some (pth 24)), none⟩] [(3, 7)])
(.cond (.tmp (pth 24)) (.seq (.seqr [⟨(.mv (.val (.bool false))), opAt P 75 7 0, (some (pth 4)), none⟩])
.ret)
.skip))))
(.seqr [⟨(.bin .add (.tmp (pth 13)) (.val (.int .i64 (1)))), opAt P 75 8 0, (some (pth 25)), none⟩,
⟨(.mv (.tmp (pth 25))), opAt P 75 8 1, (some (pth 13)), none⟩])))))))
(.seq (.seqr [⟨(.mv (.val (.bool true))), opAt P 75 9 0, (some (pth 4)), none⟩])
.ret)))), [.tmp (pth 4)]⟩
theorem cf75_ok : cFn Tryd.prog 75 = some (cf75 Tryd.prog) := by kernel_rfl
def cf76 (P : Program) : FF := ⟨49, (.seq (.seqr [⟨.slow, opAt P 76 0 0, (some (pth 1)), none⟩,
⟨(.mv (.val (.slice none 0 0))), opAt P 76 0 1, (some (pth 2)), none⟩,
⟨(.mv (.val (.int .i64 (0)))), opAt P 76 0 2, (some (pth 3)), none⟩])
(.seq (.seq (.seqr [⟨(.ld 25 (.tmp (pth 1))), opAt P 76 1 0, (some (pth 6)), none⟩,
⟨(.call 11 [(.tmp (pth 6))]), opAt P 76 1 1, (some (pth 7)), none⟩,
⟨(.un .not (.tmp (pth 7))), opAt P 76 1 2, (some (pth 8)), none⟩])
(.cond (.tmp (pth 8)) (.seq (.seqr [⟨(.mv (.val (.slice none 0 0))), opAt P 76 2 0, (some (pth 2)), none⟩,
⟨(.mv (.val (.int .i64 (1)))), opAt P 76 2 1, (some (pth 3)), none⟩])
.ret)
.skip))
(.seq (.seqr [⟨(.mv (.val (.int .i64 (0)))), opAt P 76 3 0, (some (pth 4)), none⟩])
(.seq (.seq (.seqr [⟨(.fa (.tmp (pth 1)) 10), opAt P 76 4 0, (some (pth 9)), none⟩,
⟨(.ld 4 (.tmp (pth 9))), opAt P 76 4 1, (some (pth 10)), none⟩])
(.cond (.tmp (pth 10)) (.seqr [⟨(.mv (.val (.int .i64 (1)))), opAt P 76 5 0, (some (pth 4)), none⟩])
.skip))
(.seq (.seqr [⟨.slow, opAt P 76 6 0, (some (pth 5)), none⟩])
(.seq (.seqr [⟨(.fa (.tmp (pth 1)) 0), opAt P 76 7 0, (some (pth 11)), none⟩,
⟨(.ld 3 (.tmp (pth 11))), opAt P 76 7 1, (some (pth 12)), none⟩,
⟨(.fa (.tmp (pth 1)) 1), opAt P 76 7 2, (some (pth 13)), none⟩,
⟨(.ld 3 (.tmp (pth 13))), opAt P 76 7 3, (some (pth 14)), none⟩,
⟨(.fa (.tmp (pth 1)) 2), opAt P 76 7 4, (some (pth 15)), none⟩,
⟨(.ld 3 (.tmp (pth 15))), opAt P 76 7 5, (some (pth 16)), none⟩,
⟨.slow, opAt P 76 7 6, (some (pth 17)), none⟩,
⟨(.call 36 [(.tmp (pth 5)), (.tmp (pth 17))]), opAt P 76 7 7, (some (pth 18)), none⟩])
(.seq (.seqr [⟨(.fa (.tmp (pth 1)) 3), opAt P 76 8 0, (some (pth 19)), none⟩,
⟨(.fa (.tmp (pth 19)) 0), opAt P 76 8 1, (some (pth 20)), none⟩,
⟨(.ld 9 (.tmp (pth 20))), opAt P 76 8 2, (some (pth 21)), none⟩,
⟨.slow, opAt P 76 8 3, (some (pth 22)), none⟩,
⟨(.fa (.tmp (pth 1)) 3), opAt P 76 8 4, (some (pth 23)), none⟩,
⟨(.fa (.tmp (pth 23)) 1), opAt P 76 8 5, (some (pth 24)), none⟩,
⟨(.ld 9 (.tmp (pth 24))), opAt P 76 8 6, (some (pth 25)), none⟩,
⟨.slow, opAt P 76 8 7, (some (pth 26)), none⟩,
⟨(.fa (.tmp (pth 1)) 5), opAt P 76 8 8, (some (pth 27)), none⟩,
⟨(.fa (.tmp (pth 27)) 0), opAt P 76 8 9, (some (pth 28)), none⟩,
⟨(.ld 9 (.tmp (pth 28))), opAt P 76 8 10, (some (pth 29)), none⟩,
⟨.slow, opAt P 76 8 11, (some (pth 30)), none⟩,
⟨(.fa (.tmp (pth 1)) 5), opAt P 76 8 12, (some (pth 31)), none⟩,
⟨(.fa (.tmp (pth 31)) 1), opAt P 76 8 13, (some (pth 32)), none⟩,
⟨(.ld 9 (.tmp (pth 32))), opAt P 76 8 14, (some (pth 33)), none⟩,
⟨.slow, opAt P 76 8 15, (some (pth 34)), none⟩,
⟨.slow, opAt P 76 8 16, (some (pth 35)), none⟩,
⟨(.call 37 [(.tmp (pth 5)), (.tmp (pth 35))]), opAt P 76 8 17, (some (pth 36)), none⟩])
(.seq (.seqr [⟨(.fa (.tmp (pth 1)) 7), opAt P 76 9 0, (some (pth 37)), none⟩,
⟨(.ld 3 (.tmp (pth 37))), opAt P 76 9 1, (some (pth 38)), none⟩,
⟨(.fa (.tmp (pth 1)) 8), opAt P 76 9 2, (some (pth 39)), none⟩,
⟨(.ld 3 (.tmp (pth 39))), opAt P 76 9 3, (some (pth 40)), none⟩,
⟨(.fa (.tmp (pth 1)) 9), opAt P 76 9 4, (some (pth 41)), none⟩,
⟨(.ld 3 (.tmp (pth 41))), opAt P 76 9 5, (some (pth 42)), none⟩,
⟨(.mv (.tmp (pth 4))), opAt P 76 9 6, (some (pth 43)), none⟩,
⟨(.fa (.tmp (pth 1)) 11), opAt P 76 9 7, (some (pth 44)), none⟩,
⟨(.ld 3 (.tmp (pth 44))), opAt P 76 9 8, (some (pth 45)), none⟩,
⟨.slow, opAt P 76 9 9, (some (pth 46)), none⟩,
⟨(.call 36 [(.tmp (pth 5)), (.tmp (pth 46))]), opAt P 76 9 10, (some (pth 47)), none⟩])
(.seq (.seqr [⟨(.call 40 [(.tmp (pth 5))]), opAt P 76 10 0, (some (pth 48)), none⟩,
⟨(.mv (.tmp (pth 48))), opAt P 76 10 1, (some (pth 2)), none⟩,
⟨(.mv (.val (.int .i64 (0)))), opAt P 76 10 2, (some (pth 3)), none⟩])
.ret))))))))), [.tmp (pth 2), .tmp (pth 3)]⟩
theorem cf76_ok : cFn Tryd.prog 76 = some (cf76 Tryd.prog) := by kernel_rfl
def cf77 (P : Program) : FF := ⟨15, (.seq (.seqr [⟨(.mv (.val (.bool false))), opAt P 77 0 0, (some (pth 6)), none⟩])
(.seq (.seqr [⟨(.mv (.tmp (pth 0))), opAt P 77 1 0, (some (pth 7)), none⟩,
⟨(.mv (.tmp (pth 1))), opAt P 77 1 1, (some (pth 8)), none⟩,
⟨(.bin .geq (.tmp (pth 7)) (.tmp (pth 8))), opAt P 77 1 2, (some (pth 9)), none⟩,
⟨(.mv (.tmp (pth 9))), opAt P 77 1 3, (some (pth 10)), none⟩,
⟨(.mv (.tmp (pth 0))), opAt P 77 1 4, (some (pth 11)), (some ((pth 10), true))⟩,
⟨(.mv (.tmp (pth 2))), opAt P 77 1 5, (some (pth 12)), (some ((pth 10), true))⟩,
⟨(.bin .leq (.tmp (pth 11)) (.tmp (pth 12))), opAt P 77 1 6, (some (pth 13)), (some ((pth 10), true))⟩,
⟨(.pick (.tmp (pth 10)) (.tmp (pth 13)) (.val (.bool false))), opAt P 77 1 7, (some (pth 14)), none⟩,
⟨(.mv (.tmp (pth 14))), opAt P 77 1 8, (some (pth 6)), none⟩])
.ret)), [.tmp (pth 6)]⟩
theorem cf77_ok : cFn Tryd.prog 77 = some (cf77 Tryd.prog) := by kernel_rfl
def cf78 (P : Program) : FF := ⟨118, (.seq (.seqr [⟨(.mv (.val (.bool false))), opAt P 78 0 0, (some (pth 4)), none⟩])
(.seq (.seqr [⟨(.mv (.tmp (pth 0))), opAt P 78 1 0, (some (pth 9)), none⟩,
⟨(.mv (.tmp (pth 1))), opAt P 78 1 1, (some (pth 10)), none⟩,
⟨(.ia (.tmp (pth 9)) (.tmp (pth 10)) 9), opAt P 78 1 2, (some (pth 11)), none⟩,
⟨(.ld 128 (.tmp (pth 11))), opAt P 78 1 3, (some (pth 12)), none⟩,
⟨.slow, opAt P 78 1 4, (some (pth 5)), none⟩,
⟨(.st 128 (.tmp (pth 5)) (.tmp (pth 12))), opAt P 78 1 5, none, none⟩])
(.seq (.seq (.seqr [⟨(.fa (.tmp (pth 5)) 3), opAt P 78 2 0, (some (pth 13)), none⟩,
⟨(.ld 3 (.tmp (pth 13))), opAt P 78 2 1, (some (pth 14)), none⟩,
⟨(.call 77 [(.tmp (pth 14)), (.val (.int .i64 (1))), (.val (.int .i64 (1048576)))]), opAt P 78 2 2, (some (pth 15)), none⟩,
⟨(.un .not (.tmp (pth 15))), opAt P 78 2 3, (some (pth 16)), none⟩,
⟨(.mv (.tmp (pth 16))), opAt P 78 2 4, (some (pth 17)), none⟩,
⟨(.fa (.tmp (pth 5)) 4), opAt P 78 2 5, (some (pth 18)), (some ((pth 17), false))⟩,
⟨(.ld 3 (.tmp (pth 18))), opAt P 78 2 6, (some (pth 19)), (some ((pth 17), false))⟩,
⟨(.call 77 [(.tmp (pth 19)), (.val (.int .i64 (1))), (.val (.int .i64 (1099511627776)))]), opAt P 78 2 7, (some (pth 20)), (some ((pth 17), false))⟩,
⟨(.un .not (.tmp (pth 20))), opAt P 78 2 8, (some (pth 21)), (some ((pth 17), false))⟩,
⟨(.pick (.tmp (pth 17)) (.val (.bool true)) (.tmp (pth 21))), opAt P 78 2 9, (some (pth 22)), none⟩])
(.cond (.tmp (pth 22)) (.seq (.seqr [⟨(.mv (.val (.bool false))), opAt P 78 3 0, (some (pth 4)), none⟩])
.ret)
.skip))
(.seq (.seq (.seqr [⟨(.fa (.tmp (pth 5)) 5), opAt P 78 4 0, (some (pth 23)), none⟩,
⟨(.ld 3 (.tmp (pth 23))), opAt P 78 4 1, (some (pth 24)), none⟩])
(.block 0 (.seq (.seqr [⟨(.bin .eql (.tmp (pth 24)) (.val (.int .i64 (0)))), opAt P 78 5 0, (some (pth 26)), none⟩,
⟨(.mv (.tmp (pth 26))), opAt P 78 5 1, (some (pth 25)), none⟩])
(.cond (.tmp (pth 25)) (.seq (.seqr [⟨(.fa (.tmp (pth 5)) 6), opAt P 78 6 0, (some (pth 27)), none⟩,
⟨(.ld 3 (.tmp (pth 27))), opAt P 78 6 1, (some (pth 28)), none⟩,
⟨(.bin .eql (.tmp (pth 28)) (.val (.int .i64 (0)))), opAt P 78 6 2, (some (pth 29)), none⟩,
⟨(.mv (.tmp (pth 29))), opAt P 78 6 3, (some (pth 30)), none⟩,
⟨(.fa (.tmp (pth 5)) 7), opAt P 78 6 4, (some (pth 31)), (some ((pth 30), true))⟩,
⟨(.ld 9 (.tmp (pth 31))), opAt P 78 6 5, (some (pth 32)), (some ((pth 30), true))⟩,
⟨(.bin .eql (.tmp (pth 32)) (.val (.string ⟨#[]⟩))), opAt P 78 6 6, (some (pth 33)), (some ((pth 30), true))⟩,
⟨(.pick (.tmp (pth 30)) (.tmp (pth 33)) (.val (.bool false))), opAt P 78 6 7, (some (pth 34)), none⟩,
⟨(.mv (.tmp (pth 34))), opAt P 78 6 8, (some (pth 35)), none⟩,
⟨(.fa (.tmp (pth 5)) 8), opAt P 78 6 9, (some (pth 36)), (some ((pth 35), true))⟩,
⟨(.ld 3 (.tmp (pth 36))), opAt P 78 6 10, (some (pth 37)), (some ((pth 35), true))⟩,
⟨(.bin .eql (.tmp (pth 37)) (.val (.int .i64 (0)))), opAt P 78 6 11, (some (pth 38)), (some ((pth 35), true))⟩,
⟨(.pick (.tmp (pth 35)) (.tmp (pth 38)) (.val (.bool false))), opAt P 78 6 12, (some (pth 39)), none⟩,
⟨(.mv (.tmp (pth 39))), opAt P 78 6 13, (some (pth 4)), none⟩])
.ret)
(.seq (.seqr [⟨(.bin .eql (.tmp (pth 24)) (.val (.int .i64 (3)))), opAt P 78 7 0, (some (pth 41)), none⟩,
⟨(.mv (.tmp (pth 41))), opAt P 78 7 1, (some (pth 40)), none⟩])
(.cond (.tmp (pth 40)) (.seq (.seqr [⟨(.fa (.tmp (pth 5)) 6), opAt P 78 8 0, (some (pth 42)), none⟩,
⟨(.ld 3 (.tmp (pth 42))), opAt P 78 8 1, (some (pth 43)), none⟩,
⟨(.call 77 [(.tmp (pth 43)), (.val (.int .i64 (1))), (.val (.int .i64 (1048576)))]), opAt P 78 8 2, (some (pth 44)), none⟩,
⟨(.mv (.tmp (pth 44))), opAt P 78 8 3, (some (pth 45)), none⟩,
⟨(.fa (.tmp (pth 5)) 6), opAt P 78 8 4, (some (pth 46)), (some ((pth 45), true))⟩,
⟨(.ld 3 (.tmp (pth 46))), opAt P 78 8 5, (some (pth 47)), (some ((pth 45), true))⟩,
⟨(.fa (.tmp (pth 5)) 3), opAt P 78 8 6, (some (pth 48)), (some ((pth 45), true))⟩,
⟨(.ld 3 (.tmp (pth 48))), opAt P 78 8 7, (some (pth 49)), (some ((pth 45), true))⟩,
⟨(.bin .neq (.tmp (pth 47)) (.tmp (pth 49))), opAt P 78 8 8, (some (pth 50)), (some ((pth 45), true))⟩,
⟨(.pick (.tmp (pth 45)) (.tmp (pth 50)) (.val (.bool false))), opAt P 78 8 9, (some (pth 51)), none⟩,
⟨(.mv (.tmp (pth 51))), opAt P 78 8 10, (some (pth 52)), none⟩,
⟨(.fa (.tmp (pth 5)) 7), opAt P 78 8 11, (some (pth 53)), (some ((pth 52), true))⟩,
⟨(.ld 9 (.tmp (pth 53))), opAt P 78 8 12, (some (pth 54)), (some ((pth 52), true))⟩,
⟨(.bin .eql (.tmp (pth 54)) (.val (.string ⟨#[]⟩))), opAt P 78 8 13, (some (pth 55)), (some ((pth 52), true))⟩,
⟨(.pick (.tmp (pth 52)) (.tmp (pth 55)) (.val (.bool false))), opAt P 78 8 14, (some (pth 56)), none⟩,
⟨(.mv (.tmp (pth 56))), opAt P 78 8 15, (some (pth 57)), none⟩,
⟨(.fa (.tmp (pth 5)) 8), opAt P 78 8 16, (some (pth 58)), (some ((pth 57), true))⟩,
⟨(.ld 3 (.tmp (pth 58))), opAt P 78 8 17, (some (pth 59)), (some ((pth 57), true))⟩,
⟨(.bin .eql (.tmp (pth 59)) (.val (.int .i64 (0)))), opAt P 78 8 18, (some (pth 60)), (some ((pth 57), true))⟩,
⟨(.pick (.tmp (pth 57)) (.tmp (pth 60)) (.val (.bool false))), opAt P 78 8 19, (some (pth 61)), none⟩,
⟨(.mv (.tmp (pth 61))), opAt P 78 8 20, (some (pth 4)), none⟩])
.ret)
(.seq (.seqr [⟨(.bin .eql (.tmp (pth 24)) (.val (.int .i64 (1)))), opAt P 78 9 0, (some (pth 63)), none⟩,
⟨(.mv (.tmp (pth 63))), opAt P 78 9 1, (some (pth 62)), none⟩])
(.cond (.tmp (pth 62)) (.seq (.seqr [⟨(.fa (.tmp (pth 5)) 1), opAt P 78 10 0, (some (pth 65)), none⟩,
⟨(.ld 51 (.tmp (pth 65))), opAt P 78 10 1, (some (pth 66)), none⟩,
⟨(.fa (.tmp (pth 5)) 7), opAt P 78 10 2, (some (pth 67)), none⟩,
⟨(.ld 9 (.tmp (pth 67))), opAt P 78 10 3, (some (pth 68)), none⟩,
⟨(.call 82 [(.tmp (pth 66)), (.tmp (pth 68))]), opAt P 78 10 4, (some (pth 69)), none⟩,
⟨(.mv (.tmp (pth 69))), opAt P 78 10 5, (some (pth 64)), none⟩,
⟨(.ext (.tmp (pth 64)) 0), opAt P 78 10 6, (some (pth 70)), none⟩,
⟨(.ext (.tmp (pth 64)) 1), opAt P 78 10 7, (some (pth 71)), none⟩,
⟨(.ext (.tmp (pth 64)) 2), opAt P 78 10 8, (some (pth 72)), none⟩,
⟨.slow, opAt P 78 10 9, (some (pth 6)), none⟩,
⟨.slow, opAt P 78 10 10, (some (pth 7)), none⟩,
⟨(.st 51 (.tmp (pth 6)) (.tmp (pth 70))), opAt P 78 10 11, none, none⟩,
⟨(.st 51 (.tmp (pth 7)) (.tmp (pth 71))), opAt P 78 10 12, none, none⟩,
⟨(.mv (.tmp (pth 72))), opAt P 78 10 13, (some (pth 8)), none⟩])
(.seq (.seqr [⟨(.mv (.tmp (pth 8))), opAt P 78 11 0, (some (pth 73)), none⟩,
⟨(.mv (.tmp (pth 73))), opAt P 78 11 1, (some (pth 74)), none⟩,
⟨(.fa (.tmp (pth 5)) 6), opAt P 78 11 2, (some (pth 75)), (some ((pth 74), true))⟩,
⟨(.ld 3 (.tmp (pth 75))), opAt P 78 11 3, (some (pth 76)), (some ((pth 74), true))⟩,
⟨(.bin .eql (.tmp (pth 76)) (.val (.int .i64 (0)))), opAt P 78 11 4, (some (pth 77)), (some ((pth 74), true))⟩,
⟨(.pick (.tmp (pth 74)) (.tmp (pth 77)) (.val (.bool false))), opAt P 78 11 5, (some (pth 78)), none⟩,
⟨(.mv (.tmp (pth 78))), opAt P 78 11 6, (some (pth 4)), none⟩])
.ret))
(.seq (.seqr [⟨(.bin .eql (.tmp (pth 24)) (.val (.int .i64 (2)))), opAt P 78 12 0, (some (pth 80)), none⟩,
⟨(.mv (.tmp (pth 80))), opAt P 78 12 1, (some (pth 79)), none⟩])
(.cond (.tmp (pth 79)) (.seq (.reg [⟨(.fa (.tmp (pth 5)) 6), opAt P 78 13 0, (some (pth 81)), none⟩,
⟨(.ld 3 (.tmp (pth 81))), opAt P 78 13 1, (some (pth 82)), none⟩,
⟨(.bin .eql (.tmp (pth 82)) (.val (.int .i64 (0)))), opAt P 78 13 2, (some (pth 83)), none⟩,
⟨(.mv (.tmp (pth 83))), opAt P 78 13 3, (some (pth 84)), none⟩,
⟨(.fa (.tmp (pth 5)) 7), opAt P 78 13 4, (some (pth 85)), (some ((pth 84), true))⟩,
⟨(.ld 9 (.tmp (pth 85))), opAt P 78 13 5, (some (pth 86)), (some ((pth 84), true))⟩,
⟨(.bin .eql (.tmp (pth 86)) (.val (.string ⟨#[]⟩))), opAt P 78 13 6, (some (pth 87)), (some ((pth 84), true))⟩,
⟨(.pick (.tmp (pth 84)) (.tmp (pth 87)) (.val (.bool false))), opAt P 78 13 7, (some (pth 88)), none⟩,
⟨(.mv (.tmp (pth 88))), opAt P 78 13 8, (some (pth 89)), none⟩,
⟨(.mv (.tmp (pth 1))), opAt P 78 13 9, (some (pth 90)), (some ((pth 89), true))⟩,
⟨(.bin .gtr (.tmp (pth 90)) (.val (.int .i64 (0)))), opAt P 78 13 10, (some (pth 91)), (some ((pth 89), true))⟩,
⟨(.mv (.tmp (pth 91))), opAt P 78 13 11, (some (pth 92)), (some ((pth 89), true))⟩,
⟨(.ld 128 (.tmp (pth 5))), opAt P 78 13 12, (some (pth 93)), (some ((pth 92), true))⟩,
⟨(.mv (.tmp (pth 0))), opAt P 78 13 13, (some (pth 94)), (some ((pth 92), true))⟩,
⟨(.mv (.tmp (pth 1))), opAt P 78 13 14, (some (pth 95)), (some ((pth 92), true))⟩,
⟨(.bin .sub (.tmp (pth 95)) (.val (.int .i64 (1)))), opAt P 78 13 15, (some (pth 96)), (some ((pth 92), true))⟩,
⟨(.ia (.tmp (pth 94)) (.tmp (pth 96)) 9), opAt P 78 13 16, (some (pth 97)), (some ((pth 92), true))⟩,
⟨(.ld 128 (.tmp (pth 97))), opAt P 78 13 17, (some (pth 98)), (some ((pth 92), true))⟩,
⟨(.call 83 [(.tmp (pth 93)), (.tmp (pth 98))]), opAt P 78 13 18, (some (pth 99)), (some ((pth 92), true))⟩,
⟨(.pick (.tmp (pth 92)) (.tmp (pth 99)) (.val (.bool false))), opAt P 78 13 19, (some (pth 100)), (some ((pth 89), true))⟩,
⟨(.mv (.tmp (pth 100))), opAt P 78 13 20, (some (pth 101)), (some ((pth 89), true))⟩,
⟨(.mv (.tmp (pth 1))), opAt P 78 13 21, (some (pth 102)), (some ((pth 101), false))⟩,
⟨(.bin .add (.tmp (pth 102)) (.val (.int .i64 (1)))), opAt P 78 13 22, (some (pth 103)), (some ((pth 101), false))⟩,
⟨(.mv (.tmp (pth 0))), opAt P 78 13 23, (some (pth 104)), (some ((pth 101), false))⟩,
⟨.slow, opAt P 78 13 24, (some (pth 105)), (some ((pth 101), false))⟩,
⟨(.bin .lss (.tmp (pth 103)) (.tmp (pth 105))), opAt P 78 13 25, (some (pth 106)), (some ((pth 101), false))⟩,
⟨(.mv (.tmp (pth 106))), opAt P 78 13 26, (some (pth 107)), (some ((pth 101), false))⟩,
⟨(.ld 128 (.tmp (pth 5))), opAt P 78 13 27, (some (pth 108)), (some ((pth 107), true))⟩,
⟨(.mv (.tmp (pth 0))), opAt P 78 13 28, (some (pth 109)), (some ((pth 107), true))⟩,
⟨(.mv (.tmp (pth 1))), opAt P 78 13 29, (some (pth 110)), (some ((pth 107), true))⟩,
⟨(.bin .add (.tmp (pth 110)) (.val (.int .i64 (1)))), opAt P 78 13 30, (some (pth 111)), (some ((pth 107), true))⟩,
⟨(.ia (.tmp (pth 109)) (.tmp (pth 111)) 9), opAt P 78 13 31, (some (pth 112)), (some ((pth 107), true))⟩,
⟨(.ld 128 (.tmp (pth 112))), opAt P 78 13 32, (some (pth 113)), (some ((pth 107), true))⟩,
⟨(.call 83 [(.tmp (pth 108)), (.tmp (pth 113))]), opAt P 78 13 33, (some (pth 114)), (some ((pth 107), true))⟩,
⟨(.pick (.tmp (pth 107)) (.tmp (pth 114)) (.val (.bool false))), opAt P 78 13 34, (some (pth 115)), (some ((pth 101), false))⟩,
⟨(.pick (.tmp (pth 101)) (.val (.bool true)) (.tmp (pth 115))), opAt P 78 13 35, (some (pth 116)), (some ((pth 89), true))⟩,
⟨(.pick (.tmp (pth 89)) (.tmp (pth 116)) (.val (.bool false))), opAt P 78 13 36, (some (pth 117)), none⟩,
⟨(.mv (.tmp (pth 117))), opAt P 78 13 37, (some (pth 4)), none⟩] [(12, 15), (12, 17), (22, 24), (27, 30), (27, 32)])
.ret)
.skip))))))))))
(.seq (.seqr [⟨(.mv (.val (.bool false))), opAt P 78 14 0, (some (pth 4)), none⟩])
.ret))))), [.tmp (pth 4)]⟩
theorem cf78_ok : cFn Tryd.prog 78 = some (cf78 Tryd.prog) := by kernel_rfl
def cf79 (P : Program) : FF := ⟨45, (.seq (.seqr [⟨(.mv (.val (.bool false))), opAt P 79 0 0, (some (pth 2)), none⟩])
(.seq (.seq (.seqr [⟨(.mv (.tmp (pth 0))), opAt P 79 1 0, (some (pth 8)), none⟩,
⟨.slow, opAt P 79 1 1, (some (pth 9)), none⟩,
⟨(.bin .eql (.tmp (pth 9)) (.val (.int .i64 (0)))), opAt P 79 1 2, (some (pth 10)), none⟩,
⟨(.mv (.tmp (pth 10))), opAt P 79 1 3, (some (pth 11)), none⟩,
⟨(.mv (.tmp (pth 0))), opAt P 79 1 4, (some (pth 12)), (some ((pth 11), false))⟩,
⟨(.ia (.tmp (pth 12)) (.val (.int .i64 (0))) 2), opAt P 79 1 5, (some (pth 13)), (some ((pth 11), false))⟩,
⟨(.fa (.tmp (pth 13)) 0), opAt P 79 1 6, (some (pth 14)), (some ((pth 11), false))⟩,
⟨(.ld 9 (.tmp (pth 14))), opAt P 79 1 7, (some (pth 15)), (some ((pth 11), false))⟩,
⟨(.bin .neq (.tmp (pth 15)) (.val (.string ⟨#[]⟩))), opAt P 79 1 8, (some (pth 16)), (some ((pth 11), false))⟩,
⟨(.pick (.tmp (pth 11)) (.val (.bool true)) (.tmp (pth 16))), opAt P 79 1 9, (some (pth 17)), none⟩])
(.cond (.tmp (pth 17)) (.seq (.seqr [⟨(.mv (.val (.bool false))), opAt P 79 2 0, (some (pth 2)), none⟩])
.ret)
.skip))
(.seq (.seqr [⟨(.mv (.tmp (pth 0))), opAt P 79 3 0, (some (pth 18)), none⟩,
⟨(.ia (.tmp (pth 18)) (.val (.int .i64 (0))) 2), opAt P 79 3 1, (some (pth 19)), none⟩,
⟨(.ld 51 (.tmp (pth 19))), opAt P 79 3 2, (some (pth 20)), none⟩,
⟨.slow, opAt P 79 3 3, (some (pth 3)), none⟩,
⟨(.st 51 (.tmp (pth 3)) (.tmp (pth 20))), opAt P 79 3 4, none, none⟩])
(.seq (.seq (.seqr [⟨(.mv (.tmp (pth 0))), opAt P 79 4 0, (some (pth 21)), none⟩,
⟨.slow, opAt P 79 4 1, (some (pth 22)), none⟩,
⟨.slow, opAt P 79 4 2, (some (pth 23)), none⟩,
⟨(.mv (.val (.int .i64 (0)))), opAt P 79 4 3, (some (pth 24)), none⟩])
(.block 0 (.loop (.seq (.seqr [⟨(.bin .lss (.tmp (pth 24)) (.tmp (pth 23))), opAt P 79 5 0, (some (pth 25)), none⟩])
(.seq (.cond (.tmp (pth 25)) .skip
(.exit 0))
(.seq (.block 1 (.seq (.seqr [⟨(.ia (.tmp (pth 22)) (.tmp (pth 24)) 2), opAt P 79 6 0, (some (pth 26)), none⟩,
⟨(.ld 51 (.tmp (pth 26))), opAt P 79 6 1, (some (pth 27)), none⟩,
⟨.slow, opAt P 79 6 2, (some (pth 5)), none⟩,
⟨(.st 51 (.tmp (pth 5)) (.tmp (pth 27))), opAt P 79 6 3, none, none⟩])
(.seq (.seqr [⟨(.ld 51 (.tmp (pth 3))), opAt P 79 7 0, (some (pth 29)), none⟩,
⟨(.ld 51 (.tmp (pth 5))), opAt P 79 7 1, (some (pth 30)), none⟩,
⟨(.call 84 [(.tmp (pth 29)), (.tmp (pth 30))]), opAt P 79 7 2, (some (pth 31)), none⟩,
⟨(.mv (.tmp (pth 31))), opAt P 79 7 3, (some (pth 28)), none⟩,
⟨(.ext (.tmp (pth 28)) 0), opAt P 79 7 4, (some (pth 32)), none⟩,
⟨(.ext (.tmp (pth 28)) 1), opAt P 79 7 5, (some (pth 33)), none⟩,
⟨.slow, opAt P 79 7 6, (some (pth 6)), none⟩,
⟨(.st 51 (.tmp (pth 6)) (.tmp (pth 32))), opAt P 79 7 7, none, none⟩,
⟨(.mv (.tmp (pth 33))), opAt P 79 7 8, (some (pth 7)), none⟩])
(.seq (.seq (.seqr [⟨(.mv (.tmp (pth 7))), opAt P 79 8 0, (some (pth 34)), none⟩,
⟨(.un .not (.tmp (pth 34))), opAt P 79 8 1, (some (pth 35)), none⟩])
(.cond (.tmp (pth 35)) (.seq (.seqr [⟨(.mv (.val (.bool false))), opAt P 79 9 0, (some (pth 2)), none⟩])
.ret)
.skip))
(.seqr [⟨(.ld 51 (.tmp (pth 6))), opAt P 79 10 0, (some (pth 36)), none⟩,
⟨(.st 51 (.tmp (pth 3)) (.tmp (pth 36))), opAt P 79 10 1, none, none⟩])))))
(.seqr [⟨(.bin .add (.tmp (pth 24)) (.val (.int .i64 (1)))), opAt P 79 11 0, (some (pth 37)), none⟩,
⟨(.mv (.tmp (pth 37))), opAt P 79 11 1, (some (pth 24)), none⟩])))))))
(.seq (.seqr [⟨(.ld 51 (.tmp (pth 3))), opAt P 79 12 0, (some (pth 38)), none⟩,
⟨(.call 74 [(.tmp (pth 38))]), opAt P 79 12 1, (some (pth 39)), none⟩,
⟨(.mv (.tmp (pth 39))), opAt P 79 12 2, (some (pth 40)), none⟩,
⟨(.fa (.tmp (pth 3)) 1), opAt P 79 12 3, (some (pth 41)), (some ((pth 40), true))⟩,
⟨(.ld 9 (.tmp (pth 41))), opAt P 79 12 4, (some (pth 42)), (some ((pth 40), true))⟩,
⟨(.bin .eql (.tmp (pth 42)) (.val (.string ⟨#[]⟩))), opAt P 79 12 5, (some (pth 43)), (some ((pth 40), true))⟩,
⟨(.pick (.tmp (pth 40)) (.tmp (pth 43)) (.val (.bool false))), opAt P 79 12 6, (some (pth 44)), none⟩,
⟨(.mv (.tmp (pth 44))), opAt P 79 12 7, (some (pth 2)), none⟩])
.ret))))), [.tmp (pth 2)]⟩
theorem cf79_ok : cFn Tryd.prog 79 = some (cf79 Tryd.prog) := by kernel_rfl
def cf80 (P : Program) : FF := ⟨13, (.seq (.seqr [⟨.slow, opAt P 80 0 0, (some (pth 1)), none⟩,
⟨(.mv (.val (.bool false))), opAt P 80 0 1, (some (pth 2)), none⟩])
(.seq (.seq (.seqr [⟨(.ld 53 (.tmp (pth 1))), opAt P 80 1 0, (some (pth 5)), none⟩,
⟨(.mv (.val (.int .i64 (0)))), opAt P 80 1 1, (some (pth 6)), none⟩])
(.block 0 (.loop (.seq (.seqr [⟨(.bin .lss (.tmp (pth 6)) (.val (.int .i64 (4)))), opAt P 80 2 0, (some (pth 7)), none⟩])
(.seq (.cond (.tmp (pth 7)) .skip
(.exit 0))
(.seq (.block 1 (.seq (.seqr [⟨.slow, opAt P 80 3 0, (some (pth 8)), none⟩,
⟨(.mv (.tmp (pth 8))), opAt P 80 3 1, (some (pth 4)), none⟩])
(.seq (.seqr [⟨(.mv (.tmp (pth 4))), opAt P 80 4 0, (some (pth 9)), none⟩,
⟨(.call 85 [(.tmp (pth 9))]), opAt P 80 4 1, (some (pth 10)), none⟩,
⟨(.un .not (.tmp (pth 10))), opAt P 80 4 2, (some (pth 11)), none⟩])
(.cond (.tmp (pth 11)) (.seq (.seqr [⟨(.mv (.val (.bool false))), opAt P 80 5 0, (some (pth 2)), none⟩])
.ret)
.skip))))
(.seqr [⟨(.bin .add (.tmp (pth 6)) (.val (.int .i64 (1)))), opAt P 80 6 0, (some (pth 12)), none⟩,
⟨(.mv (.tmp (pth 12))), opAt P 80 6 1, (some (pth 6)), none⟩])))))))
(.seq (.seqr [⟨(.mv (.val (.bool true))), opAt P 80 7 0, (some (pth 2)), none⟩])
.ret))), [.tmp (pth 2)]⟩
theorem cf80_ok : cFn Tryd.prog 80 = some (cf80 Tryd.prog) := by kernel_rfl
def cf81 (P : Program) : FF := ⟨26, (.seq (.seqr [⟨(.mv (.val (.bool false))), opAt P 81 0 0, (some (pth 4)), none⟩])
(.seq (.seq (.seqr [⟨(.mv (.tmp (pth 0))), opAt P 81 1 0, (some (pth 6)), none⟩,
⟨.slow, opAt P 81 1 1, (some (pth 7)), none⟩,
⟨(.mv (.tmp (pth 1))), opAt P 81 1 2, (some (pth 8)), none⟩,
⟨.slow, opAt P 81 1 3, (some (pth 9)), none⟩,
⟨(.bin .neq (.tmp (pth 7)) (.tmp (pth 9))), opAt P 81 1 4, (some (pth 10)), none⟩])
(.cond (.tmp (pth 10)) (.seq (.seqr [⟨(.mv (.val (.bool false))), opAt P 81 2 0, (some (pth 4)), none⟩])
.ret)
.skip))
(.seq (.seq (.seqr [⟨(.mv (.tmp (pth 0))), opAt P 81 3 0, (some (pth 11)), none⟩,
⟨.slow, opAt P 81 3 1, (some (pth 12)), none⟩,
⟨(.mv (.val (.int .i64 (0)))), opAt P 81 3 2, (some (pth 13)), none⟩])
(.block 0 (.loop (.seq (.seqr [⟨(.bin .lss (.tmp (pth 13)) (.tmp (pth 12))), opAt P 81 4 0, (some (pth 14)), none⟩])
(.seq (.cond (.tmp (pth 14)) .skip
(.exit 0))
(.seq (.block 1 (.seq (.seqr [⟨(.mv (.tmp (pth 13))), opAt P 81 5 0, (some (pth 15)), none⟩,
⟨(.mv (.tmp (pth 15))), opAt P 81 5 1, (some (pth 5)), none⟩])
(.seq (.reg [⟨(.mv (.tmp (pth 0))), opAt P 81 6 0, (some (pth 16)), none⟩,
⟨(.mv (.tmp (pth 5))), opAt P 81 6 1, (some (pth 17)), none⟩,
⟨(.ia (.tmp (pth 16)) (.tmp (pth 17)) 9), opAt P 81 6 2, (some (pth 18)), none⟩,
⟨(.ld 128 (.tmp (pth 18))), opAt P 81 6 3, (some (pth 19)), none⟩,
⟨(.mv (.tmp (pth 1))), opAt P 81 6 4, (some (pth 20)), none⟩,
⟨(.mv (.tmp (pth 5))), opAt P 81 6 5, (some (pth 21)), none⟩,
⟨(.ia (.tmp (pth 20)) (.tmp (pth 21)) 9), opAt P 81 6 6, (some (pth 22)), none⟩,
⟨(.ld 128 (.tmp (pth 22))), opAt P 81 6 7, (some (pth 23)), none⟩,
⟨(.bin .neq (.tmp (pth 19)) (.tmp (pth 23))), opAt P 81 6 8, (some (pth 24)), none⟩] [(3, 7)])
(.cond (.tmp (pth 24)) (.seq (.seqr [⟨(.mv (.val (.bool false))), opAt P 81 7 0, (some (pth 4)), none⟩])
.ret)
.skip))))
(.seqr [⟨(.bin .add (.tmp (pth 13)) (.val (.int .i64 (1)))), opAt P 81 8 0, (some (pth 25)), none⟩,
⟨(.mv (.tmp (pth 25))), opAt P 81 8 1, (some (pth 13)), none⟩])))))))
(.seq (.seqr [⟨(.mv (.val (.bool true))), opAt P 81 9 0, (some (pth 4)), none⟩])
.ret)))), [.tmp (pth 4)]⟩
theorem cf81_ok : cFn Tryd.prog 81 = some (cf81 Tryd.prog) := by kernel_rfl
def cf82 (P : Program) : FF := ⟨27, (.seq (.seqr [⟨.slow, opAt P 82 0 0, (some (pth 2)), none⟩,
⟨.slow, opAt P 82 0 1, (some (pth 4)), none⟩,
⟨.slow, opAt P 82 0 2, (some (pth 5)), none⟩,
⟨(.mv (.val (.bool false))), opAt P 82 0 3, (some (pth 6)), none⟩])
(.seq (.seq (.seqr [⟨(.mv (.tmp (pth 1))), opAt P 82 1 0, (some (pth 7)), none⟩,
⟨(.fa (.tmp (pth 2)) 0), opAt P 82 1 1, (some (pth 8)), none⟩,
⟨(.ld 9 (.tmp (pth 8))), opAt P 82 1 2, (some (pth 9)), none⟩,
⟨(.bin .leq (.tmp (pth 7)) (.tmp (pth 9))), opAt P 82 1 3, (some (pth 10)), none⟩,
⟨(.mv (.tmp (pth 10))), opAt P 82 1 4, (some (pth 11)), none⟩,
⟨(.ld 51 (.tmp (pth 2))), opAt P 82 1 5, (some (pth 12)), (some ((pth 11), false))⟩,
⟨(.mv (.tmp (pth 1))), opAt P 82 1 6, (some (pth 13)), (some ((pth 11), false))⟩,
⟨(.call 86 [(.tmp (pth 12)), (.tmp (pth 13))]), opAt P 82 1 7, (some (pth 14)), (some ((pth 11), false))⟩,
⟨(.un .not (.tmp (pth 14))), opAt P 82 1 8, (some (pth 15)), (some ((pth 11), false))⟩,
⟨(.pick (.tmp (pth 11)) (.val (.bool true)) (.tmp (pth 15))), opAt P 82 1 9, (some (pth 16)), none⟩])
(.cond (.tmp (pth 16)) (.seq (.seqr [⟨.slow, opAt P 82 2 0, (some (pth 17)), none⟩,
⟨.slow, opAt P 82 2 1, (some (pth 18)), none⟩,
⟨(.st 51 (.tmp (pth 4)) (.tmp (pth 17))), opAt P 82 2 2, none, none⟩,
⟨(.st 51 (.tmp (pth 5)) (.tmp (pth 18))), opAt P 82 2 3, none, none⟩,
⟨(.mv (.val (.bool false))), opAt P 82 2 4, (some (pth 6)), none⟩])
.ret)
.skip))
(.seq (.reg [⟨(.fa (.tmp (pth 2)) 0), opAt P 82 3 0, (some (pth 19)), none⟩,
⟨(.ld 9 (.tmp (pth 19))), opAt P 82 3 1, (some (pth 20)), none⟩,
⟨(.mv (.tmp (pth 1))), opAt P 82 3 2, (some (pth 21)), none⟩,
⟨.slow, opAt P 82 3 3, (some (pth 22)), none⟩,
⟨(.mv (.tmp (pth 1))), opAt P 82 3 4, (some (pth 23)), none⟩,
⟨(.fa (.tmp (pth 2)) 1), opAt P 82 3 5, (some (pth 24)), none⟩,
⟨(.ld 9 (.tmp (pth 24))), opAt P 82 3 6, (some (pth 25)), none⟩,
⟨.slow, opAt P 82 3 7, (some (pth 26)), none⟩,
⟨(.st 51 (.tmp (pth 4)) (.tmp (pth 22))), opAt P 82 3 8, none, none⟩,
⟨(.st 51 (.tmp (pth 5)) (.tmp (pth 26))), opAt P 82 3 9, none, none⟩,
⟨(.mv (.val (.bool true))), opAt P 82 3 10, (some (pth 6)), none⟩] [(1, 6), (3, 6), (1, 7), (3, 7), (6, 8), (7, 8)])
.ret))), [.cell (pth 4) 51, .cell (pth 5) 51, .tmp (pth 6)]⟩
theorem cf82_ok : cFn Tryd.prog 82 = some (cf82 Tryd.prog) := by kernel_rfl
def cf83 (P : Program) : FF := ⟨34, (.seq (.seqr [⟨.slow, opAt P 83 0 0, (some (pth 2)), none⟩,
⟨.slow, opAt P 83 0 1, (some (pth 3)), none⟩,
⟨(.mv (.val (.bool false))), opAt P 83 0 2, (some (pth 4)), none⟩])
(.seq (.seqr [⟨(.fa (.tmp (pth 2)) 5), opAt P 83 1 0, (some (pth 5)), none⟩,
⟨(.ld 3 (.tmp (pth 5))), opAt P 83 1 1, (some (pth 6)), none⟩,
⟨(.bin .eql (.tmp (pth 6)) (.val (.int .i64 (2)))), opAt P 83 1 2, (some (pth 7)), none⟩,
⟨(.mv (.tmp (pth 7))), opAt P 83 1 3, (some (pth 8)), none⟩,
⟨(.fa (.tmp (pth 3)) 5), opAt P 83 1 4, (some (pth 9)), (some ((pth 8), true))⟩,
⟨(.ld 3 (.tmp (pth 9))), opAt P 83 1 5, (some (pth 10)), (some ((pth 8), true))⟩,
⟨(.bin .eql (.tmp (pth 10)) (.val (.int .i64 (2)))), opAt P 83 1 6, (some (pth 11)), (some ((pth 8), true))⟩,
⟨(.pick (.tmp (pth 8)) (.tmp (pth 11)) (.val (.bool false))), opAt P 83 1 7, (some (pth 12)), none⟩,
⟨(.mv (.tmp (pth 12))), opAt P 83 1 8, (some (pth 13)), none⟩,
⟨(.fa (.tmp (pth 2)) 3), opAt P 83 1 9, (some (pth 14)), (some ((pth 13), true))⟩,
⟨(.ld 3 (.tmp (pth 14))), opAt P 83 1 10, (some (pth 15)), (some ((pth 13), true))⟩,
⟨(.fa (.tmp (pth 3)) 3), opAt P 83 1 11, (some (pth 16)), (some ((pth 13), true))⟩,
⟨(.ld 3 (.tmp (pth 16))), opAt P 83 1 12, (some (pth 17)), (some ((pth 13), true))⟩,
⟨(.bin .eql (.tmp (pth 15)) (.tmp (pth 17))), opAt P 83 1 13, (some (pth 18)), (some ((pth 13), true))⟩,
⟨(.pick (.tmp (pth 13)) (.tmp (pth 18)) (.val (.bool false))), opAt P 83 1 14, (some (pth 19)), none⟩,
⟨(.mv (.tmp (pth 19))), opAt P 83 1 15, (some (pth 20)), none⟩,
⟨(.fa (.tmp (pth 2)) 8), opAt P 83 1 16, (some (pth 21)), (some ((pth 20), true))⟩,
⟨(.ld 3 (.tmp (pth 21))), opAt P 83 1 17, (some (pth 22)), (some ((pth 20), true))⟩,
⟨(.fa (.tmp (pth 3)) 0), opAt P 83 1 18, (some (pth 23)), (some ((pth 20), true))⟩,
⟨(.ld 3 (.tmp (pth 23))), opAt P 83 1 19, (some (pth 24)), (some ((pth 20), true))⟩,
⟨(.bin .eql (.tmp (pth 22)) (.tmp (pth 24))), opAt P 83 1 20, (some (pth 25)), (some ((pth 20), true))⟩,
⟨(.pick (.tmp (pth 20)) (.tmp (pth 25)) (.val (.bool false))), opAt P 83 1 21, (some (pth 26)), none⟩,
⟨(.mv (.tmp (pth 26))), opAt P 83 1 22, (some (pth 27)), none⟩,
⟨(.fa (.tmp (pth 3)) 8), opAt P 83 1 23, (some (pth 28)), (some ((pth 27), true))⟩,
⟨(.ld 3 (.tmp (pth 28))), opAt P 83 1 24, (some (pth 29)), (some ((pth 27), true))⟩,
⟨(.fa (.tmp (pth 2)) 0), opAt P 83 1 25, (some (pth 30)), (some ((pth 27), true))⟩,
⟨(.ld 3 (.tmp (pth 30))), opAt P 83 1 26, (some (pth 31)), (some ((pth 27), true))⟩,
⟨(.bin .eql (.tmp (pth 29)) (.tmp (pth 31))), opAt P 83 1 27, (some (pth 32)), (some ((pth 27), true))⟩,
⟨(.pick (.tmp (pth 27)) (.tmp (pth 32)) (.val (.bool false))), opAt P 83 1 28, (some (pth 33)), none⟩,
⟨(.mv (.tmp (pth 33))), opAt P 83 1 29, (some (pth 4)), none⟩])
.ret)), [.tmp (pth 4)]⟩
theorem cf83_ok : cFn Tryd.prog 83 = some (cf83 Tryd.prog) := by kernel_rfl
def cf84 (P : Program) : FF := ⟨32, (.seq (.seqr [⟨.slow, opAt P 84 0 0, (some (pth 2)), none⟩,
⟨.slow, opAt P 84 0 1, (some (pth 3)), none⟩,
⟨.slow, opAt P 84 0 2, (some (pth 4)), none⟩,
⟨(.mv (.val (.bool false))), opAt P 84 0 3, (some (pth 5)), none⟩])
(.seq (.seq (.seqr [⟨(.ld 51 (.tmp (pth 2))), opAt P 84 1 0, (some (pth 6)), none⟩,
⟨(.call 74 [(.tmp (pth 6))]), opAt P 84 1 1, (some (pth 7)), none⟩,
⟨(.un .not (.tmp (pth 7))), opAt P 84 1 2, (some (pth 8)), none⟩,
⟨(.mv (.tmp (pth 8))), opAt P 84 1 3, (some (pth 9)), none⟩,
⟨(.ld 51 (.tmp (pth 3))), opAt P 84 1 4, (some (pth 10)), (some ((pth 9), false))⟩,
⟨(.call 74 [(.tmp (pth 10))]), opAt P 84 1 5, (some (pth 11)), (some ((pth 9), false))⟩,
⟨(.un .not (.tmp (pth 11))), opAt P 84 1 6, (some (pth 12)), (some ((pth 9), false))⟩,
⟨(.pick (.tmp (pth 9)) (.val (.bool true)) (.tmp (pth 12))), opAt P 84 1 7, (some (pth 13)), none⟩,
⟨(.mv (.tmp (pth 13))), opAt P 84 1 8, (some (pth 14)), none⟩,
⟨(.fa (.tmp (pth 2)) 1), opAt P 84 1 9, (some (pth 15)), (some ((pth 14), false))⟩,
⟨(.ld 9 (.tmp (pth 15))), opAt P 84 1 10, (some (pth 16)), (some ((pth 14), false))⟩,
⟨(.bin .eql (.tmp (pth 16)) (.val (.string ⟨#[]⟩))), opAt P 84 1 11, (some (pth 17)), (some ((pth 14), false))⟩,
⟨(.pick (.tmp (pth 14)) (.val (.bool true)) (.tmp (pth 17))), opAt P 84 1 12, (some (pth 18)), none⟩,
⟨(.mv (.tmp (pth 18))), opAt P 84 1 13, (some (pth 19)), none⟩,
⟨(.fa (.tmp (pth 2)) 1), opAt P 84 1 14, (some (pth 20)), (some ((pth 19), false))⟩,
⟨(.ld 9 (.tmp (pth 20))), opAt P 84 1 15, (some (pth 21)), (some ((pth 19), false))⟩,
⟨(.fa (.tmp (pth 3)) 0), opAt P 84 1 16, (some (pth 22)), (some ((pth 19), false))⟩,
⟨(.ld 9 (.tmp (pth 22))), opAt P 84 1 17, (some (pth 23)), (some ((pth 19), false))⟩,
⟨(.bin .neq (.tmp (pth 21)) (.tmp (pth 23))), opAt P 84 1 18, (some (pth 24)), (some ((pth 19), false))⟩,
⟨(.pick (.tmp (pth 19)) (.val (.bool true)) (.tmp (pth 24))), opAt P 84 1 19, (some (pth 25)), none⟩])
(.cond (.tmp (pth 25)) (.seq (.seqr [⟨.slow, opAt P 84 2 0, (some (pth 26)), none⟩,
⟨(.st 51 (.tmp (pth 4)) (.tmp (pth 26))), opAt P 84 2 1, none, none⟩,
⟨(.mv (.val (.bool false))), opAt P 84 2 2, (some (pth 5)), none⟩])
.ret)
.skip))
(.seq (.seqr [⟨(.fa (.tmp (pth 2)) 0), opAt P 84 3 0, (some (pth 27)), none⟩,
⟨(.ld 9 (.tmp (pth 27))), opAt P 84 3 1, (some (pth 28)), none⟩,
⟨(.fa (.tmp (pth 3)) 1), opAt P 84 3 2, (some (pth 29)), none⟩,
⟨(.ld 9 (.tmp (pth 29))), opAt P 84 3 3, (some (pth 30)), none⟩,
⟨.slow, opAt P 84 3 4, (some (pth 31)), none⟩,
⟨(.st 51 (.tmp (pth 4)) (.tmp (pth 31))), opAt P 84 3 5, none, none⟩,
⟨(.mv (.val (.bool true))), opAt P 84 3 6, (some (pth 5)), none⟩])
.ret))), [.cell (pth 4) 51, .tmp (pth 5)]⟩
theorem cf84_ok : cFn Tryd.prog 84 = some (cf84 Tryd.prog) := by kernel_rfl
def cf85 (P : Program) : FF := ⟨9, (.seq (.seqr [⟨(.mv (.val (.bool false))), opAt P 85 0 0, (some (pth 2)), none⟩])
(.seq (.seqr [⟨(.mv (.tmp (pth 0))), opAt P 85 1 0, (some (pth 3)), none⟩,
⟨(.bin .geq (.tmp (pth 3)) (.val (.int .i64 (0)))), opAt P 85 1 1, (some (pth 4)), none⟩,
⟨(.mv (.tmp (pth 4))), opAt P 85 1 2, (some (pth 5)), none⟩,
⟨(.mv (.tmp (pth 0))), opAt P 85 1 3, (some (pth 6)), (some ((pth 5), true))⟩,
⟨(.bin .leq (.tmp (pth 6)) (.val (.int .i64 (1152921504606846976)))), opAt P 85 1 4, (some (pth 7)), (some ((pth 5), true))⟩,
⟨(.pick (.tmp (pth 5)) (.tmp (pth 7)) (.val (.bool false))), opAt P 85 1 5, (some (pth 8)), none⟩,
⟨(.mv (.tmp (pth 8))), opAt P 85 1 6, (some (pth 2)), none⟩])
.ret)), [.tmp (pth 2)]⟩
theorem cf85_ok : cFn Tryd.prog 85 = some (cf85 Tryd.prog) := by kernel_rfl
def cf86 (P : Program) : FF := ⟨34, (.seq (.seqr [⟨.slow, opAt P 86 0 0, (some (pth 2)), none⟩,
⟨(.mv (.val (.bool false))), opAt P 86 0 1, (some (pth 4)), none⟩])
(.seq (.seqr [⟨(.ld 51 (.tmp (pth 2))), opAt P 86 1 0, (some (pth 5)), none⟩,
⟨(.call 74 [(.tmp (pth 5))]), opAt P 86 1 1, (some (pth 6)), none⟩,
⟨(.mv (.tmp (pth 6))), opAt P 86 1 2, (some (pth 7)), none⟩,
⟨(.mv (.tmp (pth 1))), opAt P 86 1 3, (some (pth 8)), (some ((pth 7), true))⟩,
⟨.slow, opAt P 86 1 4, (some (pth 9)), (some ((pth 7), true))⟩,
⟨(.bin .geq (.tmp (pth 9)) (.val (.int .i64 (1)))), opAt P 86 1 5, (some (pth 10)), (some ((pth 7), true))⟩,
⟨(.pick (.tmp (pth 7)) (.tmp (pth 10)) (.val (.bool false))), opAt P 86 1 6, (some (pth 11)), none⟩,
⟨(.mv (.tmp (pth 11))), opAt P 86 1 7, (some (pth 12)), none⟩,
⟨(.mv (.tmp (pth 1))), opAt P 86 1 8, (some (pth 13)), (some ((pth 12), true))⟩,
⟨.slow, opAt P 86 1 9, (some (pth 14)), (some ((pth 12), true))⟩,
⟨(.bin .leq (.tmp (pth 14)) (.val (.int .i64 (16)))), opAt P 86 1 10, (some (pth 15)), (some ((pth 12), true))⟩,
⟨(.pick (.tmp (pth 12)) (.tmp (pth 15)) (.val (.bool false))), opAt P 86 1 11, (some (pth 16)), none⟩,
⟨(.mv (.tmp (pth 16))), opAt P 86 1 12, (some (pth 17)), none⟩,
⟨(.mv (.tmp (pth 1))), opAt P 86 1 13, (some (pth 18)), (some ((pth 17), true))⟩,
⟨(.fa (.tmp (pth 2)) 0), opAt P 86 1 14, (some (pth 19)), (some ((pth 17), true))⟩,
⟨(.ld 9 (.tmp (pth 19))), opAt P 86 1 15, (some (pth 20)), (some ((pth 17), true))⟩,
⟨(.bin .geq (.tmp (pth 18)) (.tmp (pth 20))), opAt P 86 1 16, (some (pth 21)), (some ((pth 17), true))⟩,
⟨(.pick (.tmp (pth 17)) (.tmp (pth 21)) (.val (.bool false))), opAt P 86 1 17, (some (pth 22)), none⟩,
⟨(.mv (.tmp (pth 22))), opAt P 86 1 18, (some (pth 23)), none⟩,
⟨(.fa (.tmp (pth 2)) 1), opAt P 86 1 19, (some (pth 24)), (some ((pth 23), true))⟩,
⟨(.ld 9 (.tmp (pth 24))), opAt P 86 1 20, (some (pth 25)), (some ((pth 23), true))⟩,
⟨(.bin .eql (.tmp (pth 25)) (.val (.string ⟨#[]⟩))), opAt P 86 1 21, (some (pth 26)), (some ((pth 23), true))⟩,
⟨(.mv (.tmp (pth 26))), opAt P 86 1 22, (some (pth 27)), (some ((pth 23), true))⟩,
⟨(.mv (.tmp (pth 1))), opAt P 86 1 23, (some (pth 28)), (some ((pth 27), false))⟩,
⟨(.fa (.tmp (pth 2)) 1), opAt P 86 1 24, (some (pth 29)), (some ((pth 27), false))⟩,
⟨(.ld 9 (.tmp (pth 29))), opAt P 86 1 25, (some (pth 30)), (some ((pth 27), false))⟩,
⟨(.bin .lss (.tmp (pth 28)) (.tmp (pth 30))), opAt P 86 1 26, (some (pth 31)), (some ((pth 27), false))⟩,
⟨(.pick (.tmp (pth 27)) (.val (.bool true)) (.tmp (pth 31))), opAt P 86 1 27, (some (pth 32)), (some ((pth 23), true))⟩,
⟨(.pick (.tmp (pth 23)) (.tmp (pth 32)) (.val (.bool false))), opAt P 86 1 28, (some (pth 33)), none⟩,
⟨(.mv (.tmp (pth 33))), opAt P 86 1 29, (some (pth 4)), none⟩])
.ret)), [.tmp (pth 4)]⟩
theorem cf86_ok : cFn Tryd.prog 86 = some (cf86 Tryd.prog) := by kernel_rfl
def ctL (P : Program) : List (Nat × FF) := [(3, cf3 P), (4, cf4 P), (5, cf5 P), (6, cf6 P), (7, cf7 P), (8, cf8 P), (9, cf9 P), (10, cf10 P), (11, cf11 P), (12, cf12 P), (13, cf13 P), (14, cf14 P), (15, cf15 P), (16, cf16 P), (17, cf17 P), (18, cf18 P), (19, cf19 P), (20, cf20 P), (21, cf21 P), (22, cf22 P), (23, cf23 P), (24, cf24 P), (25, cf25 P), (26, cf26 P), (27, cf27 P), (28, cf28 P), (29, cf29 P), (30, cf30 P), (31, cf31 P), (32, cf32 P), (33, cf33 P), (34, cf34 P), (35, cf35 P), (36, cf36 P), (37, cf37 P), (38, cf38 P), (39, cf39 P), (40, cf40 P), (41, cf41 P), (42, cf42 P), (43, cf43 P), (44, cf44 P), (45, cf45 P), (46, cf46 P), (47, cf47 P), (48, cf48 P), (49, cf49 P), (50, cf50 P), (51, cf51 P), (52, cf52 P), (53, cf53 P), (54, cf54 P), (55, cf55 P), (56, cf56 P), (57, cf57 P), (58, cf58 P), (59, cf59 P), (60, cf60 P), (61, cf61 P), (62, cf62 P), (63, cf63 P), (64, cf64 P), (65, cf65 P), (66, cf66 P), (67, cf67 P), (68, cf68 P), (69, cf69 P), (70, cf70 P), (71, cf71 P), (72, cf72 P), (73, cf73 P), (74, cf74 P), (75, cf75 P), (76, cf76 P), (77, cf77 P), (78, cf78 P), (79, cf79 P), (80, cf80 P), (81, cf81 P), (82, cf82 P), (83, cf83 P), (84, cf84 P), (85, cf85 P), (86, cf86 P)]
theorem ctL_ok : AllOK Tryd.prog (ctL Tryd.prog) := ⟨cf3_ok, ⟨cf4_ok, ⟨cf5_ok, ⟨cf6_ok, ⟨cf7_ok, ⟨cf8_ok, ⟨cf9_ok, ⟨cf10_ok, ⟨cf11_ok, ⟨cf12_ok, ⟨cf13_ok, ⟨cf14_ok, ⟨cf15_ok, ⟨cf16_ok, ⟨cf17_ok, ⟨cf18_ok, ⟨cf19_ok, ⟨cf20_ok, ⟨cf21_ok, ⟨cf22_ok, ⟨cf23_ok, ⟨cf24_ok, ⟨cf25_ok, ⟨cf26_ok, ⟨cf27_ok, ⟨cf28_ok, ⟨cf29_ok, ⟨cf30_ok, ⟨cf31_ok, ⟨cf32_ok, ⟨cf33_ok, ⟨cf34_ok, ⟨cf35_ok, ⟨cf36_ok, ⟨cf37_ok, ⟨cf38_ok, ⟨cf39_ok, ⟨cf40_ok, ⟨cf41_ok, ⟨cf42_ok, ⟨cf43_ok, ⟨cf44_ok, ⟨cf45_ok, ⟨cf46_ok, ⟨cf47_ok, ⟨cf48_ok, ⟨cf49_ok, ⟨cf50_ok, ⟨cf51_ok, ⟨cf52_ok, ⟨cf53_ok, ⟨cf54_ok, ⟨cf55_ok, ⟨cf56_ok, ⟨cf57_ok, ⟨cf58_ok, ⟨cf59_ok, ⟨cf60_ok, ⟨cf61_ok, ⟨cf62_ok, ⟨cf63_ok, ⟨cf64_ok, ⟨cf65_ok, ⟨cf66_ok, ⟨cf67_ok, ⟨cf68_ok, ⟨cf69_ok, ⟨cf70_ok, ⟨cf71_ok, ⟨cf72_ok, ⟨cf73_ok, ⟨cf74_ok, ⟨cf75_ok, ⟨cf76_ok, ⟨cf77_ok, ⟨cf78_ok, ⟨cf79_ok, ⟨cf80_ok, ⟨cf81_ok, ⟨cf82_ok, ⟨cf83_ok, ⟨cf84_ok, ⟨cf85_ok, ⟨cf86_ok, trivial⟩⟩⟩⟩⟩⟩⟩⟩⟩⟩⟩⟩⟩⟩⟩⟩⟩⟩⟩⟩⟩⟩⟩⟩⟩⟩⟩⟩⟩⟩⟩⟩⟩⟩⟩⟩⟩⟩⟩⟩⟩⟩⟩⟩⟩⟩⟩⟩⟩⟩⟩⟩⟩⟩⟩⟩⟩⟩⟩⟩⟩⟩⟩⟩⟩⟩⟩⟩⟩⟩⟩⟩⟩⟩⟩⟩⟩⟩⟩⟩⟩⟩⟩⟩
end Go.Proofs.YtpkpgjmoeklgcaaDoor
