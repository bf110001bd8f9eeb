/- The program's functions, made ready. -/
import Derived.Test.YtleengigapmnpaaEvS
import Derived.Test.YtleengigapmnpaaEvZc
namespace Go.Proofs.Ytleengigapmnpaa
set_option linter.unusedVariables false
set_option maxRecDepth 100000
def cf4 (P : Program) : FF := ⟨147, (.seq (.seqr [⟨(.mv (.val (.bool false))), opAt P 4 0 0, (some (pth 8)), none⟩])
(.seq (.seq (.seqr [⟨(.mv (.tmp (pth 0))), opAt P 4 1 0, (some (pth 15)), none⟩,
⟨(.bin .lss (.tmp (pth 15)) (.val (.int .i64 (1)))), opAt P 4 1 1, (some (pth 16)), none⟩,
⟨(.mv (.tmp (pth 16))), opAt P 4 1 2, (some (pth 17)), none⟩,
⟨(.mv (.tmp (pth 0))), opAt P 4 1 3, (some (pth 18)), (some ((pth 17), false))⟩,
⟨(.bin .gtr (.tmp (pth 18)) (.val (.int .i64 (1024)))), opAt P 4 1 4, (some (pth 19)), (some ((pth 17), false))⟩,
⟨(.pick (.tmp (pth 17)) (.val (.bool true)) (.tmp (pth 19))), opAt P 4 1 5, (some (pth 20)), none⟩,
⟨(.mv (.tmp (pth 20))), opAt P 4 1 6, (some (pth 21)), none⟩,
⟨(.mv (.tmp (pth 1))), opAt P 4 1 7, (some (pth 22)), (some ((pth 21), false))⟩,
⟨(.bin .lss (.tmp (pth 22)) (.val (.int .i64 (0)))), opAt P 4 1 8, (some (pth 23)), (some ((pth 21), false))⟩,
⟨(.pick (.tmp (pth 21)) (.val (.bool true)) (.tmp (pth 23))), opAt P 4 1 9, (some (pth 24)), none⟩,
⟨(.mv (.tmp (pth 24))), opAt P 4 1 10, (some (pth 25)), none⟩,
⟨(.mv (.tmp (pth 1))), opAt P 4 1 11, (some (pth 26)), (some ((pth 25), false))⟩,
⟨(.mv (.tmp (pth 0))), opAt P 4 1 12, (some (pth 27)), (some ((pth 25), false))⟩,
⟨(.bin .sub (.val (.int .i64 (1024))) (.tmp (pth 27))), opAt P 4 1 13, (some (pth 28)), (some ((pth 25), false))⟩,
⟨(.bin .gtr (.tmp (pth 26)) (.tmp (pth 28))), opAt P 4 1 14, (some (pth 29)), (some ((pth 25), false))⟩,
⟨(.pick (.tmp (pth 25)) (.val (.bool true)) (.tmp (pth 29))), opAt P 4 1 15, (some (pth 30)), none⟩,
⟨(.mv (.tmp (pth 30))), opAt P 4 1 16, (some (pth 31)), none⟩,
⟨(.mv (.tmp (pth 2))), opAt P 4 1 17, (some (pth 32)), (some ((pth 31), false))⟩,
⟨(.bin .lss (.tmp (pth 32)) (.val (.int .i64 (1)))), opAt P 4 1 18, (some (pth 33)), (some ((pth 31), false))⟩,
⟨(.pick (.tmp (pth 31)) (.val (.bool true)) (.tmp (pth 33))), opAt P 4 1 19, (some (pth 34)), none⟩,
⟨(.mv (.tmp (pth 34))), opAt P 4 1 20, (some (pth 35)), none⟩,
⟨(.mv (.tmp (pth 2))), opAt P 4 1 21, (some (pth 36)), (some ((pth 35), false))⟩,
⟨(.bin .gtr (.tmp (pth 36)) (.val (.int .i64 (1000)))), opAt P 4 1 22, (some (pth 37)), (some ((pth 35), false))⟩,
⟨(.pick (.tmp (pth 35)) (.val (.bool true)) (.tmp (pth 37))), opAt P 4 1 23, (some (pth 38)), none⟩,
⟨(.mv (.tmp (pth 38))), opAt P 4 1 24, (some (pth 39)), none⟩,
⟨(.mv (.tmp (pth 3))), opAt P 4 1 25, (some (pth 40)), (some ((pth 39), false))⟩,
⟨(.bin .lss (.tmp (pth 40)) (.val (.int .i64 (0)))), opAt P 4 1 26, (some (pth 41)), (some ((pth 39), false))⟩,
⟨(.pick (.tmp (pth 39)) (.val (.bool true)) (.tmp (pth 41))), opAt P 4 1 27, (some (pth 42)), none⟩,
⟨(.mv (.tmp (pth 42))), opAt P 4 1 28, (some (pth 43)), none⟩,
⟨(.mv (.tmp (pth 3))), opAt P 4 1 29, (some (pth 44)), (some ((pth 43), false))⟩,
⟨(.bin .gtr (.tmp (pth 44)) (.val (.int .i64 (1000)))), opAt P 4 1 30, (some (pth 45)), (some ((pth 43), false))⟩,
⟨(.pick (.tmp (pth 43)) (.val (.bool true)) (.tmp (pth 45))), opAt P 4 1 31, (some (pth 46)), none⟩])
(.cond (.tmp (pth 46)) (.seq (.seqr [⟨(.call 15 []), opAt P 4 2 0, (some (pth 47)), none⟩,
⟨(.mv (.tmp (pth 47))), opAt P 4 2 1, (some (pth 8)), none⟩])
.ret)
.skip))
(.seq (.seqr [⟨(.call 16 []), opAt P 4 3 0, (some (pth 48)), none⟩,
⟨(.mv (.tmp (pth 48))), opAt P 4 3 1, (some (pth 9)), none⟩])
(.seq (.seq (.seqr [⟨(.mv (.tmp (pth 9))), opAt P 4 4 0, (some (pth 49)), none⟩,
⟨(.bin .eql (.tmp (pth 49)) (.val (.pointer none))), opAt P 4 4 1, (some (pth 50)), none⟩])
(.cond (.tmp (pth 50)) (.seq (.seqr [⟨(.mv (.val (.bool false))), opAt P 4 5 0, (some (pth 8)), none⟩])
.ret)
.skip))
(.seq (.seqr [⟨(.mv (.tmp (pth 9))), opAt P 4 6 0, (some (pth 51)), none⟩,
⟨(.mv (.tmp (pth 2))), opAt P 4 6 1, (some (pth 52)), none⟩,
⟨.slow, opAt P 4 6 2, (some (pth 53)), none⟩,
⟨(.call 17 [(.tmp (pth 51)), (.val (.string ⟨#[115]⟩)), (.tmp (pth 53))]), opAt P 4 6 3, (some (pth 54)), none⟩])
(.seq (.seqr [⟨(.mv (.tmp (pth 9))), opAt P 4 7 0, (some (pth 55)), none⟩,
⟨(.mv (.tmp (pth 2))), opAt P 4 7 1, (some (pth 56)), none⟩,
⟨(.mv (.tmp (pth 3))), opAt P 4 7 2, (some (pth 57)), none⟩,
⟨(.bin .add (.tmp (pth 56)) (.tmp (pth 57))), opAt P 4 7 3, (some (pth 58)), none⟩,
⟨(.mv (.tmp (pth 0))), opAt P 4 7 4, (some (pth 59)), none⟩,
⟨(.mv (.tmp (pth 1))), opAt P 4 7 5, (some (pth 60)), none⟩,
⟨(.bin .add (.tmp (pth 59)) (.tmp (pth 60))), opAt P 4 7 6, (some (pth 61)), none⟩,
⟨(.bin .mul (.tmp (pth 58)) (.tmp (pth 61))), opAt P 4 7 7, (some (pth 62)), none⟩,
⟨.slow, opAt P 4 7 8, (some (pth 63)), none⟩,
⟨(.call 17 [(.tmp (pth 55)), (.val (.string ⟨#[98]⟩)), (.tmp (pth 63))]), opAt P 4 7 9, (some (pth 64)), none⟩])
(.seq (.seqr [⟨(.mv (.tmp (pth 9))), opAt P 4 8 0, (some (pth 66)), none⟩,
⟨(.mv (.tmp (pth 2))), opAt P 4 8 1, (some (pth 67)), none⟩,
⟨(.mv (.tmp (pth 0))), opAt P 4 8 2, (some (pth 68)), none⟩,
⟨.slow, opAt P 4 8 3, (some (pth 69)), none⟩,
⟨(.call 18 [(.tmp (pth 66)), (.tmp (pth 69))]), opAt P 4 8 4, (some (pth 70)), none⟩,
⟨(.mv (.tmp (pth 70))), opAt P 4 8 5, (some (pth 65)), none⟩,
⟨(.ext (.tmp (pth 65)) 0), opAt P 4 8 6, (some (pth 71)), none⟩,
⟨(.ext (.tmp (pth 65)) 1), opAt P 4 8 7, (some (pth 72)), none⟩,
⟨(.mv (.tmp (pth 71))), opAt P 4 8 8, (some (pth 10)), none⟩,
⟨(.mv (.tmp (pth 72))), opAt P 4 8 9, (some (pth 11)), none⟩])
(.seq (.seqr [⟨(.mv (.tmp (pth 9))), opAt P 4 9 0, (some (pth 74)), none⟩,
⟨(.mv (.tmp (pth 2))), opAt P 4 9 1, (some (pth 75)), none⟩,
⟨(.mv (.tmp (pth 3))), opAt P 4 9 2, (some (pth 76)), none⟩,
⟨(.bin .add (.tmp (pth 75)) (.tmp (pth 76))), opAt P 4 9 3, (some (pth 77)), none⟩,
⟨(.mv (.tmp (pth 0))), opAt P 4 9 4, (some (pth 78)), none⟩,
⟨(.mv (.tmp (pth 1))), opAt P 4 9 5, (some (pth 79)), none⟩,
⟨(.bin .add (.tmp (pth 78)) (.tmp (pth 79))), opAt P 4 9 6, (some (pth 80)), none⟩,
⟨.slow, opAt P 4 9 7, (some (pth 81)), none⟩,
⟨(.call 18 [(.tmp (pth 74)), (.tmp (pth 81))]), opAt P 4 9 8, (some (pth 82)), none⟩,
⟨(.mv (.tmp (pth 82))), opAt P 4 9 9, (some (pth 73)), none⟩,
⟨(.ext (.tmp (pth 73)) 0), opAt P 4 9 10, (some (pth 83)), none⟩,
⟨(.ext (.tmp (pth 73)) 1), opAt P 4 9 11, (some (pth 84)), none⟩,
⟨(.mv (.tmp (pth 83))), opAt P 4 9 12, (some (pth 12)), none⟩,
⟨(.mv (.tmp (pth 84))), opAt P 4 9 13, (some (pth 13)), none⟩])
(.seq (.seq (.seqr [⟨(.mv (.tmp (pth 11))), opAt P 4 10 0, (some (pth 85)), none⟩,
⟨(.bin .neq (.tmp (pth 85)) (.val (.int .i64 (0)))), opAt P 4 10 1, (some (pth 86)), none⟩,
⟨(.mv (.tmp (pth 86))), opAt P 4 10 2, (some (pth 87)), none⟩,
⟨(.mv (.tmp (pth 13))), opAt P 4 10 3, (some (pth 88)), (some ((pth 87), false))⟩,
⟨(.bin .neq (.tmp (pth 88)) (.val (.int .i64 (0)))), opAt P 4 10 4, (some (pth 89)), (some ((pth 87), false))⟩,
⟨(.pick (.tmp (pth 87)) (.val (.bool true)) (.tmp (pth 89))), opAt P 4 10 5, (some (pth 90)), none⟩,
⟨(.mv (.tmp (pth 90))), opAt P 4 10 6, (some (pth 91)), none⟩,
⟨(.mv (.tmp (pth 9))), opAt P 4 10 7, (some (pth 92)), (some ((pth 91), false))⟩,
⟨(.call 19 [(.tmp (pth 92)), (.val (.string ⟨#[115]⟩))]), opAt P 4 10 8, (some (pth 93)), (some ((pth 91), false))⟩,
⟨(.mv (.tmp (pth 2))), opAt P 4 10 9, (some (pth 94)), (some ((pth 91), false))⟩,
⟨(.mv (.tmp (pth 0))), opAt P 4 10 10, (some (pth 95)), (some ((pth 91), false))⟩,
⟨(.bin .mul (.tmp (pth 94)) (.tmp (pth 95))), opAt P 4 10 11, (some (pth 96)), (some ((pth 91), false))⟩,
⟨.slow, opAt P 4 10 12, (some (pth 97)), (some ((pth 91), false))⟩,
⟨(.bin .neq (.tmp (pth 93)) (.tmp (pth 97))), opAt P 4 10 13, (some (pth 98)), (some ((pth 91), false))⟩,
⟨(.pick (.tmp (pth 91)) (.val (.bool true)) (.tmp (pth 98))), opAt P 4 10 14, (some (pth 99)), none⟩,
⟨(.mv (.tmp (pth 99))), opAt P 4 10 15, (some (pth 100)), none⟩,
⟨(.mv (.tmp (pth 9))), opAt P 4 10 16, (some (pth 101)), (some ((pth 100), false))⟩,
⟨(.call 19 [(.tmp (pth 101)), (.val (.string ⟨#[98]⟩))]), opAt P 4 10 17, (some (pth 102)), (some ((pth 100), false))⟩,
⟨(.mv (.tmp (pth 2))), opAt P 4 10 18, (some (pth 103)), (some ((pth 100), false))⟩,
⟨(.mv (.tmp (pth 1))), opAt P 4 10 19, (some (pth 104)), (some ((pth 100), false))⟩,
⟨(.bin .mul (.tmp (pth 103)) (.tmp (pth 104))), opAt P 4 10 20, (some (pth 105)), (some ((pth 100), false))⟩,
⟨(.mv (.tmp (pth 2))), opAt P 4 10 21, (some (pth 106)), (some ((pth 100), false))⟩,
⟨.slow, opAt P 4 10 22, (some (pth 107)), (some ((pth 100), false))⟩,
⟨(.bin .neq (.tmp (pth 102)) (.tmp (pth 107))), opAt P 4 10 23, (some (pth 108)), (some ((pth 100), false))⟩,
⟨(.pick (.tmp (pth 100)) (.val (.bool true)) (.tmp (pth 108))), opAt P 4 10 24, (some (pth 109)), none⟩])
(.cond (.tmp (pth 109)) (.seq (.seqr [⟨(.mv (.val (.bool false))), opAt P 4 11 0, (some (pth 8)), none⟩])
.ret)
.skip))
(.seq (.seqr [⟨(.mv (.tmp (pth 9))), opAt P 4 12 0, (some (pth 110)), none⟩,
⟨(.mv (.tmp (pth 12))), opAt P 4 12 1, (some (pth 111)), none⟩,
⟨(.call 20 [(.tmp (pth 110)), (.val (.string ⟨#[98]⟩)), (.tmp (pth 111))]), opAt P 4 12 2, (some (pth 112)), none⟩,
⟨(.mv (.tmp (pth 112))), opAt P 4 12 3, (some (pth 14)), none⟩])
(.seq (.seq (.seqr [⟨(.mv (.tmp (pth 3))), opAt P 4 13 0, (some (pth 113)), none⟩,
⟨(.bin .eql (.tmp (pth 113)) (.val (.int .i64 (0)))), opAt P 4 13 1, (some (pth 114)), none⟩])
(.cond (.tmp (pth 114)) (.seq (.seqr [⟨(.mv (.tmp (pth 14))), opAt P 4 14 0, (some (pth 115)), none⟩,
⟨(.bin .eql (.tmp (pth 115)) (.val (.int .i64 (7)))), opAt P 4 14 1, (some (pth 116)), none⟩,
⟨(.mv (.tmp (pth 116))), opAt P 4 14 2, (some (pth 117)), none⟩,
⟨(.call 15 []), opAt P 4 14 3, (some (pth 118)), (some ((pth 117), true))⟩,
⟨(.pick (.tmp (pth 117)) (.tmp (pth 118)) (.val (.bool false))), opAt P 4 14 4, (some (pth 119)), none⟩,
⟨(.mv (.tmp (pth 119))), opAt P 4 14 5, (some (pth 8)), none⟩])
.ret)
.skip))
(.seq (.seqr [⟨(.mv (.tmp (pth 14))), opAt P 4 15 0, (some (pth 120)), none⟩,
⟨(.bin .eql (.tmp (pth 120)) (.val (.int .i64 (0)))), opAt P 4 15 1, (some (pth 121)), none⟩,
⟨(.mv (.tmp (pth 121))), opAt P 4 15 2, (some (pth 122)), none⟩,
⟨(.mv (.tmp (pth 9))), opAt P 4 15 3, (some (pth 123)), (some ((pth 122), true))⟩,
⟨(.call 19 [(.tmp (pth 123)), (.val (.string ⟨#[98]⟩))]), opAt P 4 15 4, (some (pth 124)), (some ((pth 122), true))⟩,
⟨(.mv (.tmp (pth 2))), opAt P 4 15 5, (some (pth 125)), (some ((pth 122), true))⟩,
⟨(.mv (.tmp (pth 1))), opAt P 4 15 6, (some (pth 126)), (some ((pth 122), true))⟩,
⟨(.bin .mul (.tmp (pth 125)) (.tmp (pth 126))), opAt P 4 15 7, (some (pth 127)), (some ((pth 122), true))⟩,
⟨(.mv (.tmp (pth 3))), opAt P 4 15 8, (some (pth 128)), (some ((pth 122), true))⟩,
⟨(.mv (.tmp (pth 0))), opAt P 4 15 9, (some (pth 129)), (some ((pth 122), true))⟩,
⟨(.mv (.tmp (pth 1))), opAt P 4 15 10, (some (pth 130)), (some ((pth 122), true))⟩,
⟨(.bin .add (.tmp (pth 129)) (.tmp (pth 130))), opAt P 4 15 11, (some (pth 131)), (some ((pth 122), true))⟩,
⟨(.bin .mul (.tmp (pth 128)) (.tmp (pth 131))), opAt P 4 15 12, (some (pth 132)), (some ((pth 122), true))⟩,
⟨(.bin .add (.tmp (pth 127)) (.tmp (pth 132))), opAt P 4 15 13, (some (pth 133)), (some ((pth 122), true))⟩,
⟨(.mv (.tmp (pth 2))), opAt P 4 15 14, (some (pth 134)), (some ((pth 122), true))⟩,
⟨.slow, opAt P 4 15 15, (some (pth 135)), (some ((pth 122), true))⟩,
⟨(.bin .eql (.tmp (pth 124)) (.tmp (pth 135))), opAt P 4 15 16, (some (pth 136)), (some ((pth 122), true))⟩,
⟨(.pick (.tmp (pth 122)) (.tmp (pth 136)) (.val (.bool false))), opAt P 4 15 17, (some (pth 137)), none⟩,
⟨(.mv (.tmp (pth 137))), opAt P 4 15 18, (some (pth 138)), none⟩,
⟨(.mv (.tmp (pth 9))), opAt P 4 15 19, (some (pth 139)), (some ((pth 138), true))⟩,
⟨(.mv (.tmp (pth 12))), opAt P 4 15 20, (some (pth 140)), (some ((pth 138), true))⟩,
⟨(.call 20 [(.tmp (pth 139)), (.val (.string ⟨#[98]⟩)), (.tmp (pth 140))]), opAt P 4 15 21, (some (pth 141)), (some ((pth 138), true))⟩,
⟨(.bin .eql (.tmp (pth 141)) (.val (.int .i64 (7)))), opAt P 4 15 22, (some (pth 142)), (some ((pth 138), true))⟩,
⟨(.pick (.tmp (pth 138)) (.tmp (pth 142)) (.val (.bool false))), opAt P 4 15 23, (some (pth 143)), none⟩,
⟨(.mv (.tmp (pth 143))), opAt P 4 15 24, (some (pth 144)), none⟩,
⟨(.call 15 []), opAt P 4 15 25, (some (pth 145)), (some ((pth 144), true))⟩,
⟨(.pick (.tmp (pth 144)) (.tmp (pth 145)) (.val (.bool false))), opAt P 4 15 26, (some (pth 146)), none⟩,
⟨(.mv (.tmp (pth 146))), opAt P 4 15 27, (some (pth 8)), none⟩])
.ret)))))))))))), [.tmp (pth 8)]⟩
theorem cf4_ok : cFn Try.prog 4 = some (cf4 Try.prog) := by kernel_rfl
def cf10 (P : Program) : FF := ⟨3, (.seq (.seqr [⟨(.mv (.val (.pointer none))), opAt P 10 0 0, (some (pth 0)), none⟩])
(.seq (.seqr [⟨.slow, opAt P 10 1 0, (some (pth 1)), none⟩,
⟨.slow, opAt P 10 1 1, (some (pth 2)), none⟩,
⟨(.mv (.tmp (pth 2))), opAt P 10 1 2, (some (pth 0)), none⟩])
.ret)), [.tmp (pth 0)]⟩
theorem cf10_ok : cFn Try.prog 10 = some (cf10 Try.prog) := by kernel_rfl
def cf11 (P : Program) : FF := ⟨123, (.seq (.seqr [⟨.slow, opAt P 11 0 0, (some (pth 3)), none⟩,
⟨(.mv (.val (.slice none 0 0))), opAt P 11 0 1, (some (pth 4)), none⟩,
⟨(.mv (.val (.int .i64 (0)))), opAt P 11 0 2, (some (pth 5)), none⟩,
⟨(.mv (.val (.int .i64 (0)))), opAt P 11 0 3, (some (pth 6)), none⟩])
(.seq (.seq (.reg [⟨(.mv (.tmp (pth 0))), opAt P 11 1 0, (some (pth 12)), none⟩,
⟨(.bin .eql (.tmp (pth 12)) (.val (.pointer none))), opAt P 11 1 1, (some (pth 13)), none⟩,
⟨(.mv (.tmp (pth 13))), opAt P 11 1 2, (some (pth 14)), none⟩,
⟨(.ld 23 (.tmp (pth 3))), opAt P 11 1 3, (some (pth 15)), (some ((pth 14), false))⟩,
⟨(.call 30 [(.tmp (pth 15))]), opAt P 11 1 4, (some (pth 16)), (some ((pth 14), false))⟩,
⟨(.un .not (.tmp (pth 16))), opAt P 11 1 5, (some (pth 17)), (some ((pth 14), false))⟩,
⟨(.pick (.tmp (pth 14)) (.val (.bool true)) (.tmp (pth 17))), opAt P 11 1 6, (some (pth 18)), none⟩,
⟨(.mv (.tmp (pth 18))), opAt P 11 1 7, (some (pth 19)), none⟩,
⟨(.fa (.tmp (pth 3)) 0), opAt P 11 1 8, (some (pth 20)), (some ((pth 19), false))⟩,
⟨(.ld 3 (.tmp (pth 20))), opAt P 11 1 9, (some (pth 21)), (some ((pth 19), false))⟩,
⟨(.mv (.tmp (pth 0))), opAt P 11 1 10, (some (pth 22)), (some ((pth 19), false))⟩,
⟨(.nc (.tmp (pth 22))), opAt P 11 1 11, (some (pth 23)), (some ((pth 19), false))⟩,
⟨(.fa (.tmp (pth 23)) 8), opAt P 11 1 12, (some (pth 24)), (some ((pth 19), false))⟩,
⟨(.ld 3 (.tmp (pth 24))), opAt P 11 1 13, (some (pth 25)), (some ((pth 19), false))⟩,
⟨(.bin .leq (.tmp (pth 21)) (.tmp (pth 25))), opAt P 11 1 14, (some (pth 26)), (some ((pth 19), false))⟩,
⟨(.pick (.tmp (pth 19)) (.val (.bool true)) (.tmp (pth 26))), opAt P 11 1 15, (some (pth 27)), none⟩] [(9, 13)])
(.cond (.tmp (pth 27)) (.seq (.seqr [⟨(.mv (.val (.slice none 0 0))), opAt P 11 2 0, (some (pth 4)), none⟩,
⟨(.mv (.val (.int .i64 (0)))), opAt P 11 2 1, (some (pth 5)), none⟩,
⟨(.mv (.val (.int .i64 (1)))), opAt P 11 2 2, (some (pth 6)), none⟩])
.ret)
.skip))
(.seq (.seq (.seqr [⟨(.mv (.tmp (pth 0))), opAt P 11 3 0, (some (pth 28)), none⟩,
⟨(.call 13 [(.tmp (pth 28))]), opAt P 11 3 1, (some (pth 29)), none⟩,
⟨(.bin .geq (.tmp (pth 29)) (.val (.int .i64 (32)))), opAt P 11 3 2, (some (pth 30)), none⟩])
(.cond (.tmp (pth 30)) (.seq (.seqr [⟨(.mv (.val (.slice none 0 0))), opAt P 11 4 0, (some (pth 4)), none⟩,
⟨(.mv (.val (.int .i64 (0)))), opAt P 11 4 1, (some (pth 5)), none⟩,
⟨(.mv (.val (.int .i64 (6)))), opAt P 11 4 2, (some (pth 6)), none⟩])
.ret)
.skip))
(.seq (.seqr [⟨(.mv (.tmp (pth 0))), opAt P 11 5 0, (some (pth 31)), none⟩,
⟨(.fa (.tmp (pth 3)) 0), opAt P 11 5 1, (some (pth 32)), none⟩,
⟨(.ld 3 (.tmp (pth 32))), opAt P 11 5 2, (some (pth 33)), none⟩,
⟨(.nc (.tmp (pth 31))), opAt P 11 5 3, (some (pth 34)), none⟩,
⟨(.fa (.tmp (pth 34)) 8), opAt P 11 5 4, (some (pth 35)), none⟩,
⟨(.st 3 (.tmp (pth 35)) (.tmp (pth 33))), opAt P 11 5 5, none, none⟩])
(.seq (.reg [⟨(.mv (.tmp (pth 0))), opAt P 11 6 0, (some (pth 36)), none⟩,
⟨(.fa (.tmp (pth 3)) 3), opAt P 11 6 1, (some (pth 37)), none⟩,
⟨(.ld 3 (.tmp (pth 37))), opAt P 11 6 2, (some (pth 38)), none⟩,
⟨(.nc (.tmp (pth 36))), opAt P 11 6 3, (some (pth 39)), none⟩,
⟨(.fa (.tmp (pth 39)) 4), opAt P 11 6 4, (some (pth 40)), none⟩,
⟨.slow, opAt P 11 6 5, (some (pth 41)), none⟩,
⟨(.mv (.tmp (pth 0))), opAt P 11 6 6, (some (pth 42)), none⟩,
⟨(.fa (.tmp (pth 3)) 3), opAt P 11 6 7, (some (pth 43)), none⟩,
⟨(.ld 3 (.tmp (pth 43))), opAt P 11 6 8, (some (pth 44)), none⟩,
⟨(.nc (.tmp (pth 42))), opAt P 11 6 9, (some (pth 45)), none⟩,
⟨(.fa (.tmp (pth 45)) 0), opAt P 11 6 10, (some (pth 46)), none⟩,
⟨.slow, opAt P 11 6 11, (some (pth 47)), none⟩,
⟨(.mv (.tmp (pth 41))), opAt P 11 6 12, (some (pth 7)), none⟩,
⟨(.mv (.tmp (pth 47))), opAt P 11 6 13, (some (pth 8)), none⟩] [(2, 8), (5, 8), (2, 11), (5, 11)])
(.seq (.seq (.seqr [⟨(.fa (.tmp (pth 3)) 2), opAt P 11 7 0, (some (pth 48)), none⟩,
⟨(.ld 4 (.tmp (pth 48))), opAt P 11 7 1, (some (pth 49)), none⟩])
(.cond (.tmp (pth 49)) (.seqr [⟨(.mv (.tmp (pth 8))), opAt P 11 8 0, (some (pth 50)), none⟩,
⟨(.mv (.tmp (pth 7))), opAt P 11 8 1, (some (pth 51)), none⟩,
⟨(.mv (.tmp (pth 50))), opAt P 11 8 2, (some (pth 7)), none⟩,
⟨(.mv (.tmp (pth 51))), opAt P 11 8 3, (some (pth 8)), none⟩])
.skip))
(.seq (.seqr [⟨(.mv (.val (.slice none 0 0))), opAt P 11 9 0, (some (pth 9)), none⟩])
(.seq (.block 0 (.loop (.seq (.seq (.reg [⟨(.fa (.tmp (pth 3)) 4), opAt P 11 10 0, (some (pth 52)), none⟩,
⟨(.ld 3 (.tmp (pth 52))), opAt P 11 10 1, (some (pth 53)), none⟩,
⟨(.bin .gtr (.tmp (pth 53)) (.val (.int .i64 (0)))), opAt P 11 10 2, (some (pth 54)), none⟩,
⟨(.mv (.tmp (pth 54))), opAt P 11 10 3, (some (pth 55)), none⟩,
⟨(.mv (.tmp (pth 8))), opAt P 11 10 4, (some (pth 56)), (some ((pth 55), true))⟩,
⟨(.nc (.tmp (pth 56))), opAt P 11 10 5, (some (pth 57)), (some ((pth 55), true))⟩,
⟨(.ld 74 (.tmp (pth 57))), opAt P 11 10 6, (some (pth 58)), (some ((pth 55), true))⟩,
⟨.slow, opAt P 11 10 7, (some (pth 59)), (some ((pth 55), true))⟩,
⟨(.bin .gtr (.tmp (pth 59)) (.val (.int .i64 (0)))), opAt P 11 10 8, (some (pth 60)), (some ((pth 55), true))⟩,
⟨(.pick (.tmp (pth 55)) (.tmp (pth 60)) (.val (.bool false))), opAt P 11 10 9, (some (pth 61)), none⟩,
⟨(.mv (.tmp (pth 61))), opAt P 11 10 10, (some (pth 62)), none⟩,
⟨(.ld 23 (.tmp (pth 3))), opAt P 11 10 11, (some (pth 63)), (some ((pth 62), true))⟩,
⟨(.mv (.tmp (pth 8))), opAt P 11 10 12, (some (pth 64)), (some ((pth 62), true))⟩,
⟨(.nc (.tmp (pth 64))), opAt P 11 10 13, (some (pth 65)), (some ((pth 62), true))⟩,
⟨(.ld 74 (.tmp (pth 65))), opAt P 11 10 14, (some (pth 66)), (some ((pth 62), true))⟩,
⟨(.ia (.tmp (pth 66)) (.val (.int .i64 (0))) 6), opAt P 11 10 15, (some (pth 67)), (some ((pth 62), true))⟩,
⟨(.ld 23 (.tmp (pth 67))), opAt P 11 10 16, (some (pth 68)), (some ((pth 62), true))⟩,
⟨(.call 31 [(.tmp (pth 63)), (.tmp (pth 68))]), opAt P 11 10 17, (some (pth 69)), (some ((pth 62), true))⟩,
⟨(.pick (.tmp (pth 62)) (.tmp (pth 69)) (.val (.bool false))), opAt P 11 10 18, (some (pth 70)), none⟩] [(11, 14), (11, 16)])
(.cond (.tmp (pth 70)) .skip
(.exit 0)))
(.block 1 (.seq (.seqr [⟨(.mv (.tmp (pth 8))), opAt P 11 11 0, (some (pth 71)), none⟩,
⟨(.nc (.tmp (pth 71))), opAt P 11 11 1, (some (pth 72)), none⟩,
⟨(.ld 74 (.tmp (pth 72))), opAt P 11 11 2, (some (pth 73)), none⟩,
⟨(.ia (.tmp (pth 73)) (.val (.int .i64 (0))) 6), opAt P 11 11 3, (some (pth 74)), none⟩,
⟨(.mv (.tmp (pth 74))), opAt P 11 11 4, (some (pth 10)), none⟩])
(.seq (.reg [⟨(.fa (.tmp (pth 3)) 4), opAt P 11 12 0, (some (pth 75)), none⟩,
⟨(.ld 3 (.tmp (pth 75))), opAt P 11 12 1, (some (pth 76)), none⟩,
⟨(.mv (.tmp (pth 10))), opAt P 11 12 2, (some (pth 77)), none⟩,
⟨(.nc (.tmp (pth 77))), opAt P 11 12 3, (some (pth 78)), none⟩,
⟨(.fa (.tmp (pth 78)) 4), opAt P 11 12 4, (some (pth 79)), none⟩,
⟨(.ld 3 (.tmp (pth 79))), opAt P 11 12 5, (some (pth 80)), none⟩,
⟨.slow, opAt P 11 12 6, (some (pth 81)), none⟩,
⟨(.mv (.tmp (pth 81))), opAt P 11 12 7, (some (pth 11)), none⟩] [(1, 5)])
(.seq (.reg [⟨(.mv (.tmp (pth 9))), opAt P 11 13 0, (some (pth 82)), none⟩,
⟨(.ld 23 (.tmp (pth 3))), opAt P 11 13 1, (some (pth 83)), none⟩,
⟨(.mv (.tmp (pth 10))), opAt P 11 13 2, (some (pth 84)), none⟩,
⟨(.nc (.tmp (pth 84))), opAt P 11 13 3, (some (pth 85)), none⟩,
⟨(.ld 23 (.tmp (pth 85))), opAt P 11 13 4, (some (pth 86)), none⟩,
⟨(.mv (.tmp (pth 11))), opAt P 11 13 5, (some (pth 87)), none⟩,
⟨(.call 32 [(.tmp (pth 83)), (.tmp (pth 86)), (.tmp (pth 87))]), opAt P 11 13 6, (some (pth 88)), none⟩,
⟨.slow, opAt P 11 13 7, (some (pth 89)), none⟩,
⟨.slow, opAt P 11 13 8, (some (pth 90)), none⟩,
⟨(.mv (.tmp (pth 90))), opAt P 11 13 9, (some (pth 9)), none⟩] [(1, 4)])
(.seq (.seqr [⟨(.fa (.tmp (pth 3)) 4), opAt P 11 14 0, (some (pth 91)), none⟩,
⟨(.ld 3 (.tmp (pth 91))), opAt P 11 14 1, (some (pth 92)), none⟩,
⟨(.mv (.tmp (pth 11))), opAt P 11 14 2, (some (pth 93)), none⟩,
⟨(.bin .sub (.tmp (pth 92)) (.tmp (pth 93))), opAt P 11 14 3, (some (pth 94)), none⟩,
⟨(.fa (.tmp (pth 3)) 4), opAt P 11 14 4, (some (pth 95)), none⟩,
⟨(.st 3 (.tmp (pth 95)) (.tmp (pth 94))), opAt P 11 14 5, none, none⟩])
(.seq (.seqr [⟨(.mv (.tmp (pth 10))), opAt P 11 15 0, (some (pth 96)), none⟩,
⟨(.nc (.tmp (pth 96))), opAt P 11 15 1, (some (pth 97)), none⟩,
⟨(.fa (.tmp (pth 97)) 4), opAt P 11 15 2, (some (pth 98)), none⟩,
⟨(.ld 3 (.tmp (pth 98))), opAt P 11 15 3, (some (pth 99)), none⟩,
⟨(.mv (.tmp (pth 11))), opAt P 11 15 4, (some (pth 100)), none⟩,
⟨(.bin .sub (.tmp (pth 99)) (.tmp (pth 100))), opAt P 11 15 5, (some (pth 101)), none⟩,
⟨(.nc (.tmp (pth 96))), opAt P 11 15 6, (some (pth 102)), none⟩,
⟨(.fa (.tmp (pth 102)) 4), opAt P 11 15 7, (some (pth 103)), none⟩,
⟨(.st 3 (.tmp (pth 103)) (.tmp (pth 101))), opAt P 11 15 8, none, none⟩])
(.seq (.seqr [⟨(.mv (.tmp (pth 10))), opAt P 11 16 0, (some (pth 104)), none⟩,
⟨(.nc (.tmp (pth 104))), opAt P 11 16 1, (some (pth 105)), none⟩,
⟨(.fa (.tmp (pth 105)) 4), opAt P 11 16 2, (some (pth 106)), none⟩,
⟨(.ld 3 (.tmp (pth 106))), opAt P 11 16 3, (some (pth 107)), none⟩,
⟨(.bin .eql (.tmp (pth 107)) (.val (.int .i64 (0)))), opAt P 11 16 4, (some (pth 108)), none⟩])
(.cond (.tmp (pth 108)) (.seqr [⟨(.mv (.tmp (pth 8))), opAt P 11 17 0, (some (pth 109)), none⟩,
⟨.slow, opAt P 11 17 1, (some (pth 110)), none⟩,
⟨(.call 33 [(.tmp (pth 110))]), opAt P 11 17 2, (some (pth 111)), none⟩])
.skip)))))))))))
(.seq (.seq (.seqr [⟨(.fa (.tmp (pth 3)) 4), opAt P 11 18 0, (some (pth 112)), none⟩,
⟨(.ld 3 (.tmp (pth 112))), opAt P 11 18 1, (some (pth 113)), none⟩,
⟨(.bin .gtr (.tmp (pth 113)) (.val (.int .i64 (0)))), opAt P 11 18 2, (some (pth 114)), none⟩])
(.cond (.tmp (pth 114)) (.seqr [⟨(.mv (.tmp (pth 7))), opAt P 11 19 0, (some (pth 115)), none⟩,
⟨.slow, opAt P 11 19 1, (some (pth 116)), none⟩,
⟨(.ld 23 (.tmp (pth 3))), opAt P 11 19 2, (some (pth 117)), none⟩,
⟨.slow, opAt P 11 19 3, (some (pth 118)), none⟩,
⟨(.call 34 [(.tmp (pth 116)), (.tmp (pth 118))]), opAt P 11 19 4, (some (pth 119)), none⟩])
.skip))
(.seq (.reg [⟨(.mv (.tmp (pth 9))), opAt P 11 20 0, (some (pth 120)), none⟩,
⟨(.fa (.tmp (pth 3)) 4), opAt P 11 20 1, (some (pth 121)), none⟩,
⟨(.ld 3 (.tmp (pth 121))), opAt P 11 20 2, (some (pth 122)), none⟩,
⟨(.mv (.tmp (pth 120))), opAt P 11 20 3, (some (pth 4)), none⟩,
⟨(.mv (.tmp (pth 122))), opAt P 11 20 4, (some (pth 5)), none⟩,
⟨(.mv (.val (.int .i64 (0)))), opAt P 11 20 5, (some (pth 6)), none⟩] [])
.ret)))))))))), [.tmp (pth 4), .tmp (pth 5), .tmp (pth 6)]⟩
theorem cf11_ok : cFn Try.prog 11 = some (cf11 Try.prog) := by kernel_rfl
def cf13 (P : Program) : FF := ⟨23, (.seq (.seqr [⟨(.mv (.val (.int .i64 (0)))), opAt P 13 0 0, (some (pth 2)), none⟩])
(.seq (.seq (.seqr [⟨(.mv (.tmp (pth 0))), opAt P 13 1 0, (some (pth 6)), none⟩,
⟨(.bin .eql (.tmp (pth 6)) (.val (.pointer none))), opAt P 13 1 1, (some (pth 7)), none⟩])
(.cond (.tmp (pth 7)) (.seq (.seqr [⟨(.mv (.val (.int .i64 (0)))), opAt P 13 2 0, (some (pth 2)), none⟩])
.ret)
.skip))
(.seq (.seqr [⟨(.mv (.val (.int .i64 (0)))), opAt P 13 3 0, (some (pth 3)), none⟩])
(.seq (.seq (.seqr [⟨(.mv (.tmp (pth 0))), opAt P 13 4 0, (some (pth 8)), none⟩,
⟨(.call 35 [(.tmp (pth 8))]), opAt P 13 4 1, (some (pth 9)), none⟩,
⟨.slow, opAt P 13 4 2, (some (pth 10)), none⟩,
⟨(.mv (.val (.int .i64 (0)))), opAt P 13 4 3, (some (pth 11)), none⟩])
(.block 0 (.loop (.seq (.seqr [⟨(.bin .lss (.tmp (pth 11)) (.tmp (pth 10))), opAt P 13 5 0, (some (pth 12)), none⟩])
(.seq (.cond (.tmp (pth 12)) .skip
(.exit 0))
(.seq (.block 1 (.seq (.seqr [⟨(.ia (.tmp (pth 9)) (.tmp (pth 11)) 1), opAt P 13 6 0, (some (pth 13)), none⟩,
⟨(.ld 78 (.tmp (pth 13))), opAt P 13 6 1, (some (pth 14)), none⟩,
⟨(.mv (.tmp (pth 14))), opAt P 13 6 2, (some (pth 5)), none⟩])
(.seqr [⟨(.mv (.tmp (pth 3))), opAt P 13 7 0, (some (pth 15)), none⟩,
⟨(.mv (.tmp (pth 5))), opAt P 13 7 1, (some (pth 16)), none⟩,
⟨(.nc (.tmp (pth 16))), opAt P 13 7 2, (some (pth 17)), none⟩,
⟨(.ld 74 (.tmp (pth 17))), opAt P 13 7 3, (some (pth 18)), none⟩,
⟨.slow, opAt P 13 7 4, (some (pth 19)), none⟩,
⟨(.bin .add (.tmp (pth 15)) (.tmp (pth 19))), opAt P 13 7 5, (some (pth 20)), none⟩,
⟨(.mv (.tmp (pth 20))), opAt P 13 7 6, (some (pth 3)), none⟩])))
(.seqr [⟨(.bin .add (.tmp (pth 11)) (.val (.int .i64 (1)))), opAt P 13 8 0, (some (pth 21)), none⟩,
⟨(.mv (.tmp (pth 21))), opAt P 13 8 1, (some (pth 11)), none⟩])))))))
(.seq (.seqr [⟨(.mv (.tmp (pth 3))), opAt P 13 9 0, (some (pth 22)), none⟩,
⟨(.mv (.tmp (pth 22))), opAt P 13 9 1, (some (pth 2)), none⟩])
.ret))))), [.tmp (pth 2)]⟩
theorem cf13_ok : cFn Try.prog 13 = some (cf13 Try.prog) := by kernel_rfl
def cf15 (P : Program) : FF := ⟨28, (.seq (.seqr [⟨(.mv (.val (.bool false))), opAt P 15 0 0, (some (pth 0)), none⟩])
(.seq (.seqr [⟨(.call 16 []), opAt P 15 1 0, (some (pth 4)), none⟩,
⟨(.mv (.tmp (pth 4))), opAt P 15 1 1, (some (pth 1)), none⟩])
(.seq (.seq (.seqr [⟨(.mv (.tmp (pth 1))), opAt P 15 2 0, (some (pth 5)), none⟩,
⟨(.bin .eql (.tmp (pth 5)) (.val (.pointer none))), opAt P 15 2 1, (some (pth 6)), none⟩])
(.cond (.tmp (pth 6)) (.seq (.seqr [⟨(.mv (.val (.bool false))), opAt P 15 3 0, (some (pth 0)), none⟩])
.ret)
.skip))
(.seq (.seqr [⟨(.mv (.tmp (pth 1))), opAt P 15 4 0, (some (pth 7)), none⟩,
⟨.slow, opAt P 15 4 1, (some (pth 8)), none⟩,
⟨(.call 17 [(.tmp (pth 7)), (.val (.string ⟨#[97]⟩)), (.tmp (pth 8))]), opAt P 15 4 2, (some (pth 9)), none⟩])
(.seq (.seqr [⟨(.mv (.tmp (pth 1))), opAt P 15 5 0, (some (pth 11)), none⟩,
⟨.slow, opAt P 15 5 1, (some (pth 12)), none⟩,
⟨(.call 18 [(.tmp (pth 11)), (.tmp (pth 12))]), opAt P 15 5 2, (some (pth 13)), none⟩,
⟨(.mv (.tmp (pth 13))), opAt P 15 5 3, (some (pth 10)), none⟩,
⟨(.ext (.tmp (pth 10)) 0), opAt P 15 5 4, (some (pth 14)), none⟩,
⟨(.ext (.tmp (pth 10)) 1), opAt P 15 5 5, (some (pth 15)), none⟩,
⟨(.mv (.tmp (pth 14))), opAt P 15 5 6, (some (pth 2)), none⟩,
⟨(.mv (.tmp (pth 15))), opAt P 15 5 7, (some (pth 3)), none⟩])
(.seq (.seqr [⟨(.mv (.tmp (pth 2))), opAt P 15 6 0, (some (pth 16)), none⟩,
⟨(.bin .eql (.tmp (pth 16)) (.val (.int .i64 (1)))), opAt P 15 6 1, (some (pth 17)), none⟩,
⟨(.mv (.tmp (pth 17))), opAt P 15 6 2, (some (pth 18)), none⟩,
⟨(.mv (.tmp (pth 3))), opAt P 15 6 3, (some (pth 19)), (some ((pth 18), true))⟩,
⟨(.bin .eql (.tmp (pth 19)) (.val (.int .i64 (0)))), opAt P 15 6 4, (some (pth 20)), (some ((pth 18), true))⟩,
⟨(.pick (.tmp (pth 18)) (.tmp (pth 20)) (.val (.bool false))), opAt P 15 6 5, (some (pth 21)), none⟩,
⟨(.mv (.tmp (pth 21))), opAt P 15 6 6, (some (pth 22)), none⟩,
⟨(.mv (.tmp (pth 1))), opAt P 15 6 7, (some (pth 23)), (some ((pth 22), true))⟩,
⟨(.call 19 [(.tmp (pth 23)), (.val (.string ⟨#[97]⟩))]), opAt P 15 6 8, (some (pth 24)), (some ((pth 22), true))⟩,
⟨.slow, opAt P 15 6 9, (some (pth 25)), (some ((pth 22), true))⟩,
⟨(.bin .eql (.tmp (pth 24)) (.tmp (pth 25))), opAt P 15 6 10, (some (pth 26)), (some ((pth 22), true))⟩,
⟨(.pick (.tmp (pth 22)) (.tmp (pth 26)) (.val (.bool false))), opAt P 15 6 11, (some (pth 27)), none⟩,
⟨(.mv (.tmp (pth 27))), opAt P 15 6 12, (some (pth 0)), none⟩])
.ret)))))), [.tmp (pth 0)]⟩
theorem cf15_ok : cFn Try.prog 15 = some (cf15 Try.prog) := by kernel_rfl
def cf16 (P : Program) : FF := ⟨3, (.seq (.seqr [⟨(.mv (.val (.pointer none))), opAt P 16 0 0, (some (pth 0)), none⟩])
(.seq (.seqr [⟨.slow, opAt P 16 1 0, (some (pth 1)), none⟩,
⟨.slow, opAt P 16 1 1, (some (pth 2)), none⟩,
⟨(.mv (.tmp (pth 2))), opAt P 16 1 2, (some (pth 0)), none⟩])
.ret)), [.tmp (pth 0)]⟩
theorem cf16_ok : cFn Try.prog 16 = some (cf16 Try.prog) := by kernel_rfl
def cf17 (P : Program) : FF := ⟨29, (.seq (.seqr [⟨.slow, opAt P 17 0 0, (some (pth 5)), none⟩,
⟨(.mv (.val (.int .i64 (0)))), opAt P 17 0 1, (some (pth 6)), none⟩])
(.seq (.seq (.seqr [⟨(.mv (.tmp (pth 0))), opAt P 17 1 0, (some (pth 9)), none⟩,
⟨(.mv (.tmp (pth 1))), opAt P 17 1 1, (some (pth 10)), none⟩,
⟨(.ld 37 (.tmp (pth 5))), opAt P 17 1 2, (some (pth 11)), none⟩,
⟨(.call 36 [(.tmp (pth 9)), (.tmp (pth 10)), (.tmp (pth 11))]), opAt P 17 1 3, (some (pth 12)), none⟩,
⟨(.un .not (.tmp (pth 12))), opAt P 17 1 4, (some (pth 13)), none⟩])
(.cond (.tmp (pth 13)) (.seq (.seqr [⟨(.mv (.val (.int .i64 (1)))), opAt P 17 2 0, (some (pth 6)), none⟩])
.ret)
.skip))
(.seq (.reg [⟨(.mv (.tmp (pth 0))), opAt P 17 3 0, (some (pth 15)), none⟩,
⟨(.mv (.tmp (pth 1))), opAt P 17 3 1, (some (pth 16)), none⟩,
⟨(.call 19 [(.tmp (pth 15)), (.tmp (pth 16))]), opAt P 17 3 2, (some (pth 17)), none⟩,
⟨(.ld 37 (.tmp (pth 5))), opAt P 17 3 3, (some (pth 18)), none⟩,
⟨.slow, opAt P 17 3 4, (some (pth 19)), none⟩,
⟨(.call 37 [(.tmp (pth 19))]), opAt P 17 3 5, (some (pth 20)), none⟩,
⟨(.mv (.tmp (pth 20))), opAt P 17 3 6, (some (pth 14)), none⟩,
⟨(.ext (.tmp (pth 14)) 0), opAt P 17 3 7, (some (pth 21)), none⟩,
⟨(.ext (.tmp (pth 14)) 1), opAt P 17 3 8, (some (pth 22)), none⟩,
⟨.slow, opAt P 17 3 9, (some (pth 7)), none⟩,
⟨(.st 37 (.tmp (pth 7)) (.tmp (pth 21))), opAt P 17 3 10, none, none⟩,
⟨(.mv (.tmp (pth 22))), opAt P 17 3 11, (some (pth 8)), none⟩] [(2, 3), (2, 9), (3, 9), (4, 9), (5, 9)])
(.seq (.seq (.seqr [⟨(.mv (.tmp (pth 8))), opAt P 17 4 0, (some (pth 23)), none⟩,
⟨(.un .not (.tmp (pth 23))), opAt P 17 4 1, (some (pth 24)), none⟩])
(.cond (.tmp (pth 24)) (.seq (.seqr [⟨(.mv (.val (.int .i64 (6)))), opAt P 17 5 0, (some (pth 6)), none⟩])
.ret)
.skip))
(.seq (.seqr [⟨(.mv (.tmp (pth 0))), opAt P 17 6 0, (some (pth 25)), none⟩,
⟨(.mv (.tmp (pth 1))), opAt P 17 6 1, (some (pth 26)), none⟩,
⟨(.ld 37 (.tmp (pth 7))), opAt P 17 6 2, (some (pth 27)), none⟩,
⟨(.call 38 [(.tmp (pth 25)), (.tmp (pth 26)), (.tmp (pth 27))]), opAt P 17 6 3, (some (pth 28)), none⟩])
(.seq (.seqr [⟨(.mv (.val (.int .i64 (0)))), opAt P 17 7 0, (some (pth 6)), none⟩])
.ret)))))), [.tmp (pth 6)]⟩
theorem cf17_ok : cFn Try.prog 17 = some (cf17 Try.prog) := by kernel_rfl
def cf18 (P : Program) : FF := ⟨93, (.seq (.seqr [⟨.slow, opAt P 18 0 0, (some (pth 3)), none⟩,
⟨(.mv (.val (.int .i64 (0)))), opAt P 18 0 1, (some (pth 4)), none⟩,
⟨(.mv (.val (.int .i64 (0)))), opAt P 18 0 2, (some (pth 5)), none⟩])
(.seq (.seqr [⟨(.fa (.tmp (pth 3)) 0), opAt P 18 1 0, (some (pth 14)), none⟩,
⟨(.st 3 (.tmp (pth 14)) (.val (.int .i64 (1)))), opAt P 18 1 1, none, none⟩])
(.seq (.seq (.seqr [⟨(.ld 23 (.tmp (pth 3))), opAt P 18 2 0, (some (pth 16)), none⟩,
⟨.slow, opAt P 18 2 1, (some (pth 17)), none⟩,
⟨(.call 39 [(.tmp (pth 17))]), opAt P 18 2 2, (some (pth 18)), none⟩,
⟨(.mv (.tmp (pth 18))), opAt P 18 2 3, (some (pth 15)), none⟩,
⟨(.ext (.tmp (pth 15)) 0), opAt P 18 2 4, (some (pth 19)), none⟩,
⟨(.ext (.tmp (pth 15)) 1), opAt P 18 2 5, (some (pth 20)), none⟩,
⟨(.mv (.tmp (pth 19))), opAt P 18 2 6, (some (pth 6)), none⟩,
⟨(.mv (.tmp (pth 20))), opAt P 18 2 7, (some (pth 7)), none⟩])
(.seq (.seqr [⟨(.mv (.tmp (pth 0))), opAt P 18 3 0, (some (pth 21)), none⟩,
⟨(.bin .eql (.tmp (pth 21)) (.val (.pointer none))), opAt P 18 3 1, (some (pth 22)), none⟩,
⟨(.mv (.tmp (pth 22))), opAt P 18 3 2, (some (pth 23)), none⟩,
⟨(.mv (.tmp (pth 7))), opAt P 18 3 3, (some (pth 24)), (some ((pth 23), false))⟩,
⟨(.bin .neq (.tmp (pth 24)) (.val (.int .i64 (0)))), opAt P 18 3 4, (some (pth 25)), (some ((pth 23), false))⟩,
⟨(.pick (.tmp (pth 23)) (.val (.bool true)) (.tmp (pth 25))), opAt P 18 3 5, (some (pth 26)), none⟩])
(.cond (.tmp (pth 26)) (.seq (.seqr [⟨(.mv (.val (.int .i64 (0)))), opAt P 18 4 0, (some (pth 4)), none⟩,
⟨(.mv (.val (.int .i64 (1)))), opAt P 18 4 1, (some (pth 5)), none⟩])
.ret)
.skip)))
(.seq (.seq (.seqr [⟨(.mv (.tmp (pth 0))), opAt P 18 5 0, (some (pth 27)), none⟩,
⟨(.nc (.tmp (pth 27))), opAt P 18 5 1, (some (pth 28)), none⟩,
⟨(.fa (.tmp (pth 28)) 1), opAt P 18 5 2, (some (pth 29)), none⟩,
⟨(.call 13 [(.tmp (pth 29))]), opAt P 18 5 3, (some (pth 30)), none⟩,
⟨(.bin .geq (.tmp (pth 30)) (.val (.int .i64 (32)))), opAt P 18 5 4, (some (pth 31)), none⟩,
⟨(.mv (.tmp (pth 31))), opAt P 18 5 5, (some (pth 32)), none⟩,
⟨(.mv (.tmp (pth 0))), opAt P 18 5 6, (some (pth 33)), (some ((pth 32), false))⟩,
⟨(.nc (.tmp (pth 33))), opAt P 18 5 7, (some (pth 34)), (some ((pth 32), false))⟩,
⟨(.fa (.tmp (pth 34)) 10), opAt P 18 5 8, (some (pth 35)), (some ((pth 32), false))⟩,
⟨(.ld 3 (.tmp (pth 35))), opAt P 18 5 9, (some (pth 36)), (some ((pth 32), false))⟩,
⟨(.bin .geq (.tmp (pth 36)) (.val (.int .i64 (1099511627776)))), opAt P 18 5 10, (some (pth 37)), (some ((pth 32), false))⟩,
⟨(.pick (.tmp (pth 32)) (.val (.bool true)) (.tmp (pth 37))), opAt P 18 5 11, (some (pth 38)), none⟩])
(.cond (.tmp (pth 38)) (.seq (.seqr [⟨(.mv (.val (.int .i64 (0)))), opAt P 18 6 0, (some (pth 4)), none⟩,
⟨(.mv (.val (.int .i64 (6)))), opAt P 18 6 1, (some (pth 5)), none⟩])
.ret)
.skip))
(.seq (.seq (.reg [⟨(.mv (.tmp (pth 0))), opAt P 18 7 0, (some (pth 39)), none⟩,
⟨(.fa (.tmp (pth 3)) 1), opAt P 18 7 1, (some (pth 40)), none⟩,
⟨(.ld 9 (.tmp (pth 40))), opAt P 18 7 2, (some (pth 41)), none⟩,
⟨(.ld 23 (.tmp (pth 3))), opAt P 18 7 3, (some (pth 42)), none⟩,
⟨(.call 40 [(.tmp (pth 42))]), opAt P 18 7 4, (some (pth 43)), none⟩,
⟨(.call 21 [(.tmp (pth 39)), (.tmp (pth 41)), (.tmp (pth 43))]), opAt P 18 7 5, (some (pth 44)), none⟩,
⟨(.mv (.tmp (pth 44))), opAt P 18 7 6, (some (pth 8)), none⟩] [(2, 3), (2, 4)])
(.seq (.seqr [⟨(.mv (.tmp (pth 8))), opAt P 18 8 0, (some (pth 45)), none⟩,
⟨(.bin .neq (.tmp (pth 45)) (.val (.int .i64 (0)))), opAt P 18 8 1, (some (pth 46)), none⟩])
(.cond (.tmp (pth 46)) (.seq (.seqr [⟨(.mv (.tmp (pth 8))), opAt P 18 9 0, (some (pth 47)), none⟩,
⟨(.mv (.val (.int .i64 (0)))), opAt P 18 9 1, (some (pth 4)), none⟩,
⟨(.mv (.tmp (pth 47))), opAt P 18 9 2, (some (pth 5)), none⟩])
.ret)
.skip)))
(.seq (.seqr [⟨(.mv (.tmp (pth 0))), opAt P 18 10 0, (some (pth 48)), none⟩,
⟨(.nc (.tmp (pth 48))), opAt P 18 10 1, (some (pth 49)), none⟩,
⟨(.fa (.tmp (pth 49)) 10), opAt P 18 10 2, (some (pth 50)), none⟩,
⟨(.ld 3 (.tmp (pth 50))), opAt P 18 10 3, (some (pth 51)), none⟩,
⟨(.bin .add (.tmp (pth 51)) (.val (.int .i64 (1)))), opAt P 18 10 4, (some (pth 52)), none⟩,
⟨(.nc (.tmp (pth 48))), opAt P 18 10 5, (some (pth 53)), none⟩,
⟨(.fa (.tmp (pth 53)) 10), opAt P 18 10 6, (some (pth 54)), none⟩,
⟨(.st 3 (.tmp (pth 54)) (.tmp (pth 52))), opAt P 18 10 7, none, none⟩])
(.seq (.seqr [⟨(.mv (.tmp (pth 0))), opAt P 18 11 0, (some (pth 55)), none⟩,
⟨(.nc (.tmp (pth 55))), opAt P 18 11 1, (some (pth 56)), none⟩,
⟨(.fa (.tmp (pth 56)) 10), opAt P 18 11 2, (some (pth 57)), none⟩,
⟨(.ld 3 (.tmp (pth 57))), opAt P 18 11 3, (some (pth 58)), none⟩,
⟨(.fa (.tmp (pth 3)) 0), opAt P 18 11 4, (some (pth 59)), none⟩,
⟨(.st 3 (.tmp (pth 59)) (.tmp (pth 58))), opAt P 18 11 5, none, none⟩])
(.seq (.reg [⟨(.mv (.tmp (pth 0))), opAt P 18 12 0, (some (pth 61)), none⟩,
⟨(.nc (.tmp (pth 61))), opAt P 18 12 1, (some (pth 62)), none⟩,
⟨(.fa (.tmp (pth 62)) 1), opAt P 18 12 2, (some (pth 63)), none⟩,
⟨(.ld 23 (.tmp (pth 3))), opAt P 18 12 3, (some (pth 64)), none⟩,
⟨(.call 11 [(.tmp (pth 63)), (.tmp (pth 64))]), opAt P 18 12 4, (some (pth 65)), none⟩,
⟨(.mv (.tmp (pth 65))), opAt P 18 12 5, (some (pth 60)), none⟩,
⟨(.ext (.tmp (pth 60)) 0), opAt P 18 12 6, (some (pth 66)), none⟩,
⟨(.ext (.tmp (pth 60)) 1), opAt P 18 12 7, (some (pth 67)), none⟩,
⟨(.ext (.tmp (pth 60)) 2), opAt P 18 12 8, (some (pth 68)), none⟩,
⟨(.mv (.tmp (pth 66))), opAt P 18 12 9, (some (pth 9)), none⟩,
⟨(.mv (.tmp (pth 67))), opAt P 18 12 10, (some (pth 10)), none⟩,
⟨(.mv (.tmp (pth 68))), opAt P 18 12 11, (some (pth 11)), none⟩] [])
(.seq (.seq (.seqr [⟨(.mv (.tmp (pth 11))), opAt P 18 13 0, (some (pth 69)), none⟩,
⟨(.bin .neq (.tmp (pth 69)) (.val (.int .i64 (0)))), opAt P 18 13 1, (some (pth 70)), none⟩])
(.cond (.tmp (pth 70)) (.seq (.seqr [⟨(.mv (.tmp (pth 11))), opAt P 18 14 0, (some (pth 71)), none⟩,
⟨(.mv (.val (.int .i64 (0)))), opAt P 18 14 1, (some (pth 4)), none⟩,
⟨(.mv (.tmp (pth 71))), opAt P 18 14 2, (some (pth 5)), none⟩])
.ret)
.skip))
(.seq (.seq (.seqr [⟨(.mv (.tmp (pth 9))), opAt P 18 15 0, (some (pth 72)), none⟩,
⟨.slow, opAt P 18 15 1, (some (pth 73)), none⟩,
⟨(.mv (.val (.int .i64 (0)))), opAt P 18 15 2, (some (pth 74)), none⟩])
(.block 0 (.loop (.seq (.seqr [⟨(.bin .lss (.tmp (pth 74)) (.tmp (pth 73))), opAt P 18 16 0, (some (pth 75)), none⟩])
(.seq (.cond (.tmp (pth 75)) .skip
(.exit 0))
(.seq (.block 1 (.seq (.seqr [⟨(.ia (.tmp (pth 72)) (.tmp (pth 74)) 8), opAt P 18 17 0, (some (pth 76)), none⟩,
⟨(.ld 82 (.tmp (pth 76))), opAt P 18 17 1, (some (pth 77)), none⟩,
⟨.slow, opAt P 18 17 2, (some (pth 13)), none⟩,
⟨(.st 82 (.tmp (pth 13)) (.tmp (pth 77))), opAt P 18 17 3, none, none⟩])
(.reg [⟨(.ld 82 (.tmp (pth 13))), opAt P 18 18 0, (some (pth 78)), none⟩,
⟨(.mv (.tmp (pth 0))), opAt P 18 18 1, (some (pth 79)), none⟩,
⟨(.fa (.tmp (pth 13)) 0), opAt P 18 18 2, (some (pth 80)), none⟩,
⟨(.ld 9 (.tmp (pth 80))), opAt P 18 18 3, (some (pth 81)), none⟩,
⟨(.call 42 [(.tmp (pth 79)), (.tmp (pth 81))]), opAt P 18 18 4, (some (pth 82)), none⟩,
⟨.slow, opAt P 18 18 5, (some (pth 83)), none⟩,
⟨(.mv (.tmp (pth 0))), opAt P 18 18 6, (some (pth 84)), none⟩,
⟨(.fa (.tmp (pth 13)) 1), opAt P 18 18 7, (some (pth 85)), none⟩,
⟨(.ld 9 (.tmp (pth 85))), opAt P 18 18 8, (some (pth 86)), none⟩,
⟨(.call 42 [(.tmp (pth 84)), (.tmp (pth 86))]), opAt P 18 18 9, (some (pth 87)), none⟩,
⟨.slow, opAt P 18 18 10, (some (pth 88)), none⟩,
⟨(.call 41 [(.tmp (pth 78)), (.tmp (pth 83)), (.tmp (pth 88))]), opAt P 18 18 11, (some (pth 89)), none⟩] [(0, 3), (0, 4), (0, 5), (0, 8), (3, 8), (4, 8), (5, 8), (0, 9), (5, 9), (0, 10), (5, 10)])))
(.seqr [⟨(.bin .add (.tmp (pth 74)) (.val (.int .i64 (1)))), opAt P 18 19 0, (some (pth 90)), none⟩,
⟨(.mv (.tmp (pth 90))), opAt P 18 19 1, (some (pth 74)), none⟩])))))))
(.seq (.seqr [⟨(.fa (.tmp (pth 3)) 0), opAt P 18 20 0, (some (pth 91)), none⟩,
⟨(.ld 3 (.tmp (pth 91))), opAt P 18 20 1, (some (pth 92)), none⟩,
⟨(.mv (.tmp (pth 92))), opAt P 18 20 2, (some (pth 4)), none⟩,
⟨(.mv (.val (.int .i64 (0)))), opAt P 18 20 3, (some (pth 5)), none⟩])
.ret))))))))))), [.tmp (pth 4), .tmp (pth 5)]⟩
theorem cf18_ok : cFn Try.prog 18 = some (cf18 Try.prog) := by kernel_rfl
def cf19 (P : Program) : FF := ⟨14, (.seq (.seqr [⟨.slow, opAt P 19 0 0, (some (pth 4)), none⟩])
(.seq (.seq (.seqr [⟨(.mv (.tmp (pth 0))), opAt P 19 1 0, (some (pth 5)), none⟩,
⟨(.bin .eql (.tmp (pth 5)) (.val (.pointer none))), opAt P 19 1 1, (some (pth 6)), none⟩])
(.cond (.tmp (pth 6)) (.seq (.seqr [⟨.slow, opAt P 19 2 0, (some (pth 7)), none⟩,
⟨(.st 37 (.tmp (pth 4)) (.tmp (pth 7))), opAt P 19 2 1, none, none⟩])
.ret)
.skip))
(.seq (.seqr [⟨(.mv (.tmp (pth 0))), opAt P 19 3 0, (some (pth 8)), none⟩,
⟨(.nc (.tmp (pth 8))), opAt P 19 3 1, (some (pth 9)), none⟩,
⟨(.fa (.tmp (pth 9)) 0), opAt P 19 3 2, (some (pth 10)), none⟩,
⟨(.ld 88 (.tmp (pth 10))), opAt P 19 3 3, (some (pth 11)), none⟩,
⟨(.mv (.tmp (pth 1))), opAt P 19 3 4, (some (pth 12)), none⟩,
⟨.slow, opAt P 19 3 5, (some (pth 13)), none⟩,
⟨(.st 37 (.tmp (pth 4)) (.tmp (pth 13))), opAt P 19 3 6, none, none⟩])
.ret))), [.cell (pth 4) 37]⟩
theorem cf19_ok : cFn Try.prog 19 = some (cf19 Try.prog) := by kernel_rfl
def cf20 (P : Program) : FF := ⟨51, (.seq (.seqr [⟨(.mv (.val (.int .i64 (0)))), opAt P 20 0 0, (some (pth 6)), none⟩])
(.seq (.seq (.seqr [⟨(.mv (.tmp (pth 0))), opAt P 20 1 0, (some (pth 11)), none⟩,
⟨(.bin .eql (.tmp (pth 11)) (.val (.pointer none))), opAt P 20 1 1, (some (pth 12)), none⟩])
(.cond (.tmp (pth 12)) (.seq (.seqr [⟨(.mv (.val (.int .i64 (1)))), opAt P 20 2 0, (some (pth 6)), none⟩])
.ret)
.skip))
(.seq (.seq (.seqr [⟨(.mv (.tmp (pth 0))), opAt P 20 3 0, (some (pth 13)), none⟩,
⟨(.nc (.tmp (pth 13))), opAt P 20 3 1, (some (pth 14)), none⟩,
⟨(.fa (.tmp (pth 14)) 1), opAt P 20 3 2, (some (pth 15)), none⟩,
⟨(.call 44 [(.tmp (pth 15))]), opAt P 20 3 3, (some (pth 16)), none⟩,
⟨.slow, opAt P 20 3 4, (some (pth 17)), none⟩,
⟨(.mv (.val (.int .i64 (0)))), opAt P 20 3 5, (some (pth 18)), none⟩])
(.block 0 (.loop (.seq (.seqr [⟨(.bin .lss (.tmp (pth 18)) (.tmp (pth 17))), opAt P 20 4 0, (some (pth 19)), none⟩])
(.seq (.cond (.tmp (pth 19)) .skip
(.exit 0))
(.seq (.block 1 (.seq (.seqr [⟨(.ia (.tmp (pth 16)) (.tmp (pth 18)) 6), opAt P 20 5 0, (some (pth 20)), none⟩,
⟨(.ld 23 (.tmp (pth 20))), opAt P 20 5 1, (some (pth 21)), none⟩,
⟨.slow, opAt P 20 5 2, (some (pth 8)), none⟩,
⟨(.st 23 (.tmp (pth 8)) (.tmp (pth 21))), opAt P 20 5 3, none, none⟩])
(.seq (.seq (.seqr [⟨(.fa (.tmp (pth 8)) 0), opAt P 20 6 0, (some (pth 22)), none⟩,
⟨(.ld 3 (.tmp (pth 22))), opAt P 20 6 1, (some (pth 23)), none⟩,
⟨(.mv (.tmp (pth 2))), opAt P 20 6 2, (some (pth 24)), none⟩,
⟨(.bin .neq (.tmp (pth 23)) (.tmp (pth 24))), opAt P 20 6 3, (some (pth 25)), none⟩,
⟨(.mv (.tmp (pth 25))), opAt P 20 6 4, (some (pth 26)), none⟩,
⟨(.fa (.tmp (pth 8)) 1), opAt P 20 6 5, (some (pth 27)), (some ((pth 26), false))⟩,
⟨(.ld 9 (.tmp (pth 27))), opAt P 20 6 6, (some (pth 28)), (some ((pth 26), false))⟩,
⟨(.mv (.tmp (pth 1))), opAt P 20 6 7, (some (pth 29)), (some ((pth 26), false))⟩,
⟨(.bin .neq (.tmp (pth 28)) (.tmp (pth 29))), opAt P 20 6 8, (some (pth 30)), (some ((pth 26), false))⟩,
⟨(.pick (.tmp (pth 26)) (.val (.bool true)) (.tmp (pth 30))), opAt P 20 6 9, (some (pth 31)), none⟩])
(.cond (.tmp (pth 31)) (.exit 1)
.skip))
(.seq (.seqr [⟨(.mv (.tmp (pth 0))), opAt P 20 7 0, (some (pth 32)), none⟩,
⟨(.nc (.tmp (pth 32))), opAt P 20 7 1, (some (pth 33)), none⟩,
⟨(.fa (.tmp (pth 33)) 1), opAt P 20 7 2, (some (pth 34)), none⟩,
⟨(.mv (.tmp (pth 2))), opAt P 20 7 3, (some (pth 35)), none⟩,
⟨(.call 45 [(.tmp (pth 34)), (.tmp (pth 35))]), opAt P 20 7 4, (some (pth 36)), none⟩])
(.seq (.seq (.seqr [⟨(.ld 23 (.tmp (pth 8))), opAt P 20 8 0, (some (pth 37)), none⟩,
⟨(.call 40 [(.tmp (pth 37))]), opAt P 20 8 1, (some (pth 38)), none⟩,
⟨(.mv (.val (.int .i64 (0)))), opAt P 20 8 2, (some (pth 39)), none⟩])
(.block 2 (.loop (.seq (.seqr [⟨(.bin .lss (.tmp (pth 39)) (.val (.int .i64 (4)))), opAt P 20 9 0, (some (pth 40)), none⟩])
(.seq (.cond (.tmp (pth 40)) .skip
(.exit 2))
(.seq (.block 3 (.seq (.seqr [⟨(.mv (.tmp (pth 39))), opAt P 20 10 0, (some (pth 41)), none⟩,
⟨.slow, opAt P 20 10 1, (some (pth 42)), none⟩,
⟨(.mv (.tmp (pth 41))), opAt P 20 10 2, (some (pth 9)), none⟩,
⟨(.mv (.tmp (pth 42))), opAt P 20 10 3, (some (pth 10)), none⟩])
(.seqr [⟨(.mv (.tmp (pth 0))), opAt P 20 11 0, (some (pth 43)), none⟩,
⟨(.mv (.tmp (pth 1))), opAt P 20 11 1, (some (pth 44)), none⟩,
⟨(.call 42 [(.tmp (pth 43)), (.tmp (pth 44))]), opAt P 20 11 2, (some (pth 45)), none⟩,
⟨(.mv (.tmp (pth 9))), opAt P 20 11 3, (some (pth 46)), none⟩,
⟨(.mv (.tmp (pth 10))), opAt P 20 11 4, (some (pth 47)), none⟩,
⟨(.call 43 [(.tmp (pth 45)), (.tmp (pth 46)), (.tmp (pth 47))]), opAt P 20 11 5, (some (pth 48)), none⟩])))
(.seqr [⟨(.bin .add (.tmp (pth 39)) (.val (.int .i64 (1)))), opAt P 20 12 0, (some (pth 49)), none⟩,
⟨(.mv (.tmp (pth 49))), opAt P 20 12 1, (some (pth 39)), none⟩])))))))
(.seq (.seqr [⟨(.mv (.val (.int .i64 (0)))), opAt P 20 13 0, (some (pth 6)), none⟩])
.ret))))))
(.seqr [⟨(.bin .add (.tmp (pth 18)) (.val (.int .i64 (1)))), opAt P 20 14 0, (some (pth 50)), none⟩,
⟨(.mv (.tmp (pth 50))), opAt P 20 14 1, (some (pth 18)), none⟩])))))))
(.seq (.seqr [⟨(.mv (.val (.int .i64 (7)))), opAt P 20 15 0, (some (pth 6)), none⟩])
.ret)))), [.tmp (pth 6)]⟩
theorem cf20_ok : cFn Try.prog 20 = some (cf20 Try.prog) := by kernel_rfl
def cf21 (P : Program) : FF := ⟨28, (.seq (.seqr [⟨.slow, opAt P 21 0 0, (some (pth 5)), none⟩,
⟨(.mv (.val (.int .i64 (0)))), opAt P 21 0 1, (some (pth 6)), none⟩])
(.seq (.seq (.seqr [⟨(.mv (.tmp (pth 0))), opAt P 21 1 0, (some (pth 9)), none⟩,
⟨(.mv (.tmp (pth 1))), opAt P 21 1 1, (some (pth 10)), none⟩,
⟨(.ld 37 (.tmp (pth 5))), opAt P 21 1 2, (some (pth 11)), none⟩,
⟨(.call 36 [(.tmp (pth 9)), (.tmp (pth 10)), (.tmp (pth 11))]), opAt P 21 1 3, (some (pth 12)), none⟩,
⟨(.un .not (.tmp (pth 12))), opAt P 21 1 4, (some (pth 13)), none⟩])
(.cond (.tmp (pth 13)) (.seq (.seqr [⟨(.mv (.val (.int .i64 (1)))), opAt P 21 2 0, (some (pth 6)), none⟩])
.ret)
.skip))
(.seq (.reg [⟨(.mv (.tmp (pth 0))), opAt P 21 3 0, (some (pth 15)), none⟩,
⟨(.mv (.tmp (pth 1))), opAt P 21 3 1, (some (pth 16)), none⟩,
⟨(.call 19 [(.tmp (pth 15)), (.tmp (pth 16))]), opAt P 21 3 2, (some (pth 17)), none⟩,
⟨(.ld 37 (.tmp (pth 5))), opAt P 21 3 3, (some (pth 18)), none⟩,
⟨(.call 46 [(.tmp (pth 17)), (.tmp (pth 18))]), opAt P 21 3 4, (some (pth 19)), none⟩,
⟨(.mv (.tmp (pth 19))), opAt P 21 3 5, (some (pth 14)), none⟩,
⟨(.ext (.tmp (pth 14)) 0), opAt P 21 3 6, (some (pth 20)), none⟩,
⟨(.ext (.tmp (pth 14)) 1), opAt P 21 3 7, (some (pth 21)), none⟩,
⟨.slow, opAt P 21 3 8, (some (pth 7)), none⟩,
⟨(.st 37 (.tmp (pth 7)) (.tmp (pth 20))), opAt P 21 3 9, none, none⟩,
⟨(.mv (.tmp (pth 21))), opAt P 21 3 10, (some (pth 8)), none⟩] [(2, 3), (2, 8), (3, 8), (4, 8)])
(.seq (.seq (.seqr [⟨(.mv (.tmp (pth 8))), opAt P 21 4 0, (some (pth 22)), none⟩,
⟨(.un .not (.tmp (pth 22))), opAt P 21 4 1, (some (pth 23)), none⟩])
(.cond (.tmp (pth 23)) (.seq (.seqr [⟨(.mv (.val (.int .i64 (14)))), opAt P 21 5 0, (some (pth 6)), none⟩])
.ret)
.skip))
(.seq (.seqr [⟨(.mv (.tmp (pth 0))), opAt P 21 6 0, (some (pth 24)), none⟩,
⟨(.mv (.tmp (pth 1))), opAt P 21 6 1, (some (pth 25)), none⟩,
⟨(.ld 37 (.tmp (pth 7))), opAt P 21 6 2, (some (pth 26)), none⟩,
⟨(.call 38 [(.tmp (pth 24)), (.tmp (pth 25)), (.tmp (pth 26))]), opAt P 21 6 3, (some (pth 27)), none⟩])
(.seq (.seqr [⟨(.mv (.val (.int .i64 (0)))), opAt P 21 7 0, (some (pth 6)), none⟩])
.ret)))))), [.tmp (pth 6)]⟩
theorem cf21_ok : cFn Try.prog 21 = some (cf21 Try.prog) := by kernel_rfl
def cf30 (P : Program) : FF := ⟨53, (.seq (.seqr [⟨.slow, opAt P 30 0 0, (some (pth 1)), none⟩,
⟨(.mv (.val (.bool false))), opAt P 30 0 1, (some (pth 2)), none⟩])
(.seq (.seqr [⟨(.fa (.tmp (pth 1)) 0), opAt P 30 1 0, (some (pth 3)), none⟩,
⟨(.ld 3 (.tmp (pth 3))), opAt P 30 1 1, (some (pth 4)), none⟩,
⟨(.bin .geq (.tmp (pth 4)) (.val (.int .i64 (1)))), opAt P 30 1 2, (some (pth 5)), none⟩,
⟨(.mv (.tmp (pth 5))), opAt P 30 1 3, (some (pth 6)), none⟩,
⟨(.fa (.tmp (pth 1)) 0), opAt P 30 1 4, (some (pth 7)), (some ((pth 6), true))⟩,
⟨(.ld 3 (.tmp (pth 7))), opAt P 30 1 5, (some (pth 8)), (some ((pth 6), true))⟩,
⟨(.bin .leq (.tmp (pth 8)) (.val (.int .i64 (1099511627776)))), opAt P 30 1 6, (some (pth 9)), (some ((pth 6), true))⟩,
⟨(.pick (.tmp (pth 6)) (.tmp (pth 9)) (.val (.bool false))), opAt P 30 1 7, (some (pth 10)), none⟩,
⟨(.mv (.tmp (pth 10))), opAt P 30 1 8, (some (pth 11)), none⟩,
⟨(.fa (.tmp (pth 1)) 1), opAt P 30 1 9, (some (pth 12)), (some ((pth 11), true))⟩,
⟨(.ld 9 (.tmp (pth 12))), opAt P 30 1 10, (some (pth 13)), (some ((pth 11), true))⟩,
⟨.slow, opAt P 30 1 11, (some (pth 14)), (some ((pth 11), true))⟩,
⟨(.bin .geq (.tmp (pth 14)) (.val (.int .i64 (1)))), opAt P 30 1 12, (some (pth 15)), (some ((pth 11), true))⟩,
⟨(.pick (.tmp (pth 11)) (.tmp (pth 15)) (.val (.bool false))), opAt P 30 1 13, (some (pth 16)), none⟩,
⟨(.mv (.tmp (pth 16))), opAt P 30 1 14, (some (pth 17)), none⟩,
⟨(.fa (.tmp (pth 1)) 1), opAt P 30 1 15, (some (pth 18)), (some ((pth 17), true))⟩,
⟨(.ld 9 (.tmp (pth 18))), opAt P 30 1 16, (some (pth 19)), (some ((pth 17), true))⟩,
⟨.slow, opAt P 30 1 17, (some (pth 20)), (some ((pth 17), true))⟩,
⟨(.bin .leq (.tmp (pth 20)) (.val (.int .i64 (16)))), opAt P 30 1 18, (some (pth 21)), (some ((pth 17), true))⟩,
⟨(.pick (.tmp (pth 17)) (.tmp (pth 21)) (.val (.bool false))), opAt P 30 1 19, (some (pth 22)), none⟩,
⟨(.mv (.tmp (pth 22))), opAt P 30 1 20, (some (pth 23)), none⟩,
⟨(.fa (.tmp (pth 1)) 3), opAt P 30 1 21, (some (pth 24)), (some ((pth 23), true))⟩,
⟨(.ld 3 (.tmp (pth 24))), opAt P 30 1 22, (some (pth 25)), (some ((pth 23), true))⟩,
⟨(.bin .geq (.tmp (pth 25)) (.val (.int .i64 (1)))), opAt P 30 1 23, (some (pth 26)), (some ((pth 23), true))⟩,
⟨(.pick (.tmp (pth 23)) (.tmp (pth 26)) (.val (.bool false))), opAt P 30 1 24, (some (pth 27)), none⟩,
⟨(.mv (.tmp (pth 27))), opAt P 30 1 25, (some (pth 28)), none⟩,
⟨(.fa (.tmp (pth 1)) 3), opAt P 30 1 26, (some (pth 29)), (some ((pth 28), true))⟩,
⟨(.ld 3 (.tmp (pth 29))), opAt P 30 1 27, (some (pth 30)), (some ((pth 28), true))⟩,
⟨(.bin .lss (.tmp (pth 30)) (.val (.int .i64 (4)))), opAt P 30 1 28, (some (pth 31)), (some ((pth 28), true))⟩,
⟨(.pick (.tmp (pth 28)) (.tmp (pth 31)) (.val (.bool false))), opAt P 30 1 29, (some (pth 32)), none⟩,
⟨(.mv (.tmp (pth 32))), opAt P 30 1 30, (some (pth 33)), none⟩,
⟨(.fa (.tmp (pth 1)) 4), opAt P 30 1 31, (some (pth 34)), (some ((pth 33), true))⟩,
⟨(.ld 3 (.tmp (pth 34))), opAt P 30 1 32, (some (pth 35)), (some ((pth 33), true))⟩,
⟨(.bin .geq (.tmp (pth 35)) (.val (.int .i64 (1)))), opAt P 30 1 33, (some (pth 36)), (some ((pth 33), true))⟩,
⟨(.pick (.tmp (pth 33)) (.tmp (pth 36)) (.val (.bool false))), opAt P 30 1 34, (some (pth 37)), none⟩,
⟨(.mv (.tmp (pth 37))), opAt P 30 1 35, (some (pth 38)), none⟩,
⟨(.fa (.tmp (pth 1)) 4), opAt P 30 1 36, (some (pth 39)), (some ((pth 38), true))⟩,
⟨(.ld 3 (.tmp (pth 39))), opAt P 30 1 37, (some (pth 40)), (some ((pth 38), true))⟩,
⟨(.bin .leq (.tmp (pth 40)) (.val (.int .i64 (1048576)))), opAt P 30 1 38, (some (pth 41)), (some ((pth 38), true))⟩,
⟨(.pick (.tmp (pth 38)) (.tmp (pth 41)) (.val (.bool false))), opAt P 30 1 39, (some (pth 42)), none⟩,
⟨(.mv (.tmp (pth 42))), opAt P 30 1 40, (some (pth 43)), none⟩,
⟨(.fa (.tmp (pth 1)) 5), opAt P 30 1 41, (some (pth 44)), (some ((pth 43), true))⟩,
⟨(.ld 3 (.tmp (pth 44))), opAt P 30 1 42, (some (pth 45)), (some ((pth 43), true))⟩,
⟨(.bin .geq (.tmp (pth 45)) (.val (.int .i64 (1)))), opAt P 30 1 43, (some (pth 46)), (some ((pth 43), true))⟩,
⟨(.pick (.tmp (pth 43)) (.tmp (pth 46)) (.val (.bool false))), opAt P 30 1 44, (some (pth 47)), none⟩,
⟨(.mv (.tmp (pth 47))), opAt P 30 1 45, (some (pth 48)), none⟩,
⟨(.fa (.tmp (pth 1)) 5), opAt P 30 1 46, (some (pth 49)), (some ((pth 48), true))⟩,
⟨(.ld 3 (.tmp (pth 49))), opAt P 30 1 47, (some (pth 50)), (some ((pth 48), true))⟩,
⟨(.bin .leq (.tmp (pth 50)) (.val (.int .i64 (1024)))), opAt P 30 1 48, (some (pth 51)), (some ((pth 48), true))⟩,
⟨(.pick (.tmp (pth 48)) (.tmp (pth 51)) (.val (.bool false))), opAt P 30 1 49, (some (pth 52)), none⟩,
⟨(.mv (.tmp (pth 52))), opAt P 30 1 50, (some (pth 2)), none⟩])
.ret)), [.tmp (pth 2)]⟩
theorem cf30_ok : cFn Try.prog 30 = some (cf30 Try.prog) := by kernel_rfl
def cf31 (P : Program) : FF := ⟨17, (.seq (.seqr [⟨.slow, opAt P 31 0 0, (some (pth 2)), none⟩,
⟨.slow, opAt P 31 0 1, (some (pth 3)), none⟩,
⟨(.mv (.val (.bool false))), opAt P 31 0 2, (some (pth 4)), none⟩])
(.seq (.seq (.seqr [⟨(.fa (.tmp (pth 2)) 2), opAt P 31 1 0, (some (pth 5)), none⟩,
⟨(.ld 4 (.tmp (pth 5))), opAt P 31 1 1, (some (pth 6)), none⟩])
(.cond (.tmp (pth 6)) (.seq (.seqr [⟨(.fa (.tmp (pth 2)) 5), opAt P 31 2 0, (some (pth 7)), none⟩,
⟨(.ld 3 (.tmp (pth 7))), opAt P 31 2 1, (some (pth 8)), none⟩,
⟨(.fa (.tmp (pth 3)) 5), opAt P 31 2 2, (some (pth 9)), none⟩,
⟨(.ld 3 (.tmp (pth 9))), opAt P 31 2 3, (some (pth 10)), none⟩,
⟨(.bin .geq (.tmp (pth 8)) (.tmp (pth 10))), opAt P 31 2 4, (some (pth 11)), none⟩,
⟨(.mv (.tmp (pth 11))), opAt P 31 2 5, (some (pth 4)), none⟩])
.ret)
.skip))
(.seq (.seqr [⟨(.fa (.tmp (pth 3)) 5), opAt P 31 3 0, (some (pth 12)), none⟩,
⟨(.ld 3 (.tmp (pth 12))), opAt P 31 3 1, (some (pth 13)), none⟩,
⟨(.fa (.tmp (pth 2)) 5), opAt P 31 3 2, (some (pth 14)), none⟩,
⟨(.ld 3 (.tmp (pth 14))), opAt P 31 3 3, (some (pth 15)), none⟩,
⟨(.bin .geq (.tmp (pth 13)) (.tmp (pth 15))), opAt P 31 3 4, (some (pth 16)), none⟩,
⟨(.mv (.tmp (pth 16))), opAt P 31 3 5, (some (pth 4)), none⟩])
.ret))), [.tmp (pth 4)]⟩
theorem cf31_ok : cFn Try.prog 31 = some (cf31 Try.prog) := by kernel_rfl
def cf32 (P : Program) : FF := ⟨31, (.seq (.seqr [⟨.slow, opAt P 32 0 0, (some (pth 3)), none⟩,
⟨.slow, opAt P 32 0 1, (some (pth 4)), none⟩,
⟨.slow, opAt P 32 0 2, (some (pth 6)), none⟩])
(.seq (.reg [⟨(.ld 23 (.tmp (pth 4))), opAt P 32 1 0, (some (pth 9)), none⟩,
⟨(.ld 23 (.tmp (pth 3))), opAt P 32 1 1, (some (pth 10)), none⟩,
⟨.slow, opAt P 32 1 2, (some (pth 7)), none⟩,
⟨.slow, opAt P 32 1 3, (some (pth 8)), none⟩,
⟨(.st 23 (.tmp (pth 7)) (.tmp (pth 9))), opAt P 32 1 4, none, none⟩,
⟨(.st 23 (.tmp (pth 8)) (.tmp (pth 10))), opAt P 32 1 5, none, none⟩] [(0, 1), (0, 2), (1, 2), (0, 3), (1, 3), (2, 3), (1, 4)])
(.seq (.seq (.seqr [⟨(.fa (.tmp (pth 3)) 2), opAt P 32 2 0, (some (pth 11)), none⟩,
⟨(.ld 4 (.tmp (pth 11))), opAt P 32 2 1, (some (pth 12)), none⟩])
(.cond (.tmp (pth 12)) (.reg [⟨(.ld 23 (.tmp (pth 3))), opAt P 32 3 0, (some (pth 13)), none⟩,
⟨(.ld 23 (.tmp (pth 4))), opAt P 32 3 1, (some (pth 14)), none⟩,
⟨(.st 23 (.tmp (pth 7)) (.tmp (pth 13))), opAt P 32 3 2, none, none⟩,
⟨(.st 23 (.tmp (pth 8)) (.tmp (pth 14))), opAt P 32 3 3, none, none⟩] [(0, 1), (1, 2)])
.skip))
(.seq (.seqr [⟨(.fa (.tmp (pth 7)) 1), opAt P 32 4 0, (some (pth 15)), none⟩,
⟨(.ld 9 (.tmp (pth 15))), opAt P 32 4 1, (some (pth 16)), none⟩,
⟨(.fa (.tmp (pth 8)) 1), opAt P 32 4 2, (some (pth 17)), none⟩,
⟨(.ld 9 (.tmp (pth 17))), opAt P 32 4 3, (some (pth 18)), none⟩,
⟨(.fa (.tmp (pth 7)) 0), opAt P 32 4 4, (some (pth 19)), none⟩,
⟨(.ld 3 (.tmp (pth 19))), opAt P 32 4 5, (some (pth 20)), none⟩,
⟨(.fa (.tmp (pth 8)) 0), opAt P 32 4 6, (some (pth 21)), none⟩,
⟨(.ld 3 (.tmp (pth 21))), opAt P 32 4 7, (some (pth 22)), none⟩,
⟨(.fa (.tmp (pth 3)) 3), opAt P 32 4 8, (some (pth 23)), none⟩,
⟨(.ld 3 (.tmp (pth 23))), opAt P 32 4 9, (some (pth 24)), none⟩,
⟨(.mv (.tmp (pth 2))), opAt P 32 4 10, (some (pth 25)), none⟩,
⟨(.fa (.tmp (pth 4)) 5), opAt P 32 4 11, (some (pth 26)), none⟩,
⟨(.ld 3 (.tmp (pth 26))), opAt P 32 4 12, (some (pth 27)), none⟩,
⟨(.fa (.tmp (pth 7)) 5), opAt P 32 4 13, (some (pth 28)), none⟩,
⟨(.ld 3 (.tmp (pth 28))), opAt P 32 4 14, (some (pth 29)), none⟩,
⟨.slow, opAt P 32 4 15, (some (pth 30)), none⟩,
⟨(.st 82 (.tmp (pth 6)) (.tmp (pth 30))), opAt P 32 4 16, none, none⟩])
.ret)))), [.cell (pth 6) 82]⟩
theorem cf32_ok : cFn Try.prog 32 = some (cf32 Try.prog) := by kernel_rfl
def cf33 (P : Program) : FF := ⟨15, (.seq (.seqr [⟨(.mv (.val .nilIface)), opAt P 33 0 0, (some (pth 2)), none⟩])
(.seq (.seqr [⟨(.mv (.tmp (pth 0))), opAt P 33 1 0, (some (pth 4)), none⟩,
⟨.slow, opAt P 33 1 1, (some (pth 5)), none⟩,
⟨(.bin .sub (.tmp (pth 5)) (.val (.int .i64 (1)))), opAt P 33 1 2, (some (pth 6)), none⟩,
⟨(.mv (.tmp (pth 6))), opAt P 33 1 3, (some (pth 3)), none⟩])
(.seq (.seqr [⟨(.mv (.tmp (pth 0))), opAt P 33 2 0, (some (pth 7)), none⟩,
⟨(.mv (.tmp (pth 3))), opAt P 33 2 1, (some (pth 8)), none⟩,
⟨.slow, opAt P 33 2 2, (some (pth 9)), none⟩])
(.seq (.seqr [⟨(.mv (.tmp (pth 0))), opAt P 33 3 0, (some (pth 10)), none⟩,
⟨(.mv (.tmp (pth 3))), opAt P 33 3 1, (some (pth 11)), none⟩,
⟨(.call 61 [(.tmp (pth 10)), (.val (.int .i64 (0))), (.tmp (pth 11))]), opAt P 33 3 2, (some (pth 12)), none⟩])
(.seq (.seqr [⟨(.mv (.tmp (pth 0))), opAt P 33 4 0, (some (pth 13)), none⟩,
⟨.slow, opAt P 33 4 1, (some (pth 14)), none⟩,
⟨(.mv (.tmp (pth 14))), opAt P 33 4 2, (some (pth 2)), none⟩])
.ret))))), [.tmp (pth 2)]⟩
theorem cf33_ok : cFn Try.prog 33 = some (cf33 Try.prog) := by kernel_rfl
def cf34 (P : Program) : FF := ⟨12, (.seq (.seqr [⟨(.mv (.tmp (pth 0))), opAt P 34 0 0, (some (pth 4)), none⟩,
⟨(.mv (.tmp (pth 1))), opAt P 34 0 1, (some (pth 5)), none⟩,
⟨.slow, opAt P 34 0 2, (some (pth 6)), none⟩])
(.seqr [⟨(.mv (.tmp (pth 0))), opAt P 34 1 0, (some (pth 7)), none⟩,
⟨(.mv (.tmp (pth 0))), opAt P 34 1 1, (some (pth 8)), none⟩,
⟨.slow, opAt P 34 1 2, (some (pth 9)), none⟩,
⟨(.bin .sub (.tmp (pth 9)) (.val (.int .i64 (1)))), opAt P 34 1 3, (some (pth 10)), none⟩,
⟨(.call 62 [(.tmp (pth 7)), (.tmp (pth 10))]), opAt P 34 1 4, (some (pth 11)), none⟩])), []⟩
theorem cf34_ok : cFn Try.prog 34 = some (cf34 Try.prog) := by kernel_rfl
def cf35 (P : Program) : FF := ⟨23, (.seq (.seqr [⟨(.mv (.val (.slice none 0 0))), opAt P 35 0 0, (some (pth 2)), none⟩])
(.seq (.seqr [⟨(.mv (.val (.slice none 0 0))), opAt P 35 1 0, (some (pth 3)), none⟩])
(.seq (.seq (.seqr [⟨(.mv (.val (.int .i64 (0)))), opAt P 35 2 0, (some (pth 5)), none⟩])
(.block 0 (.loop (.seq (.seqr [⟨(.bin .lss (.tmp (pth 5)) (.val (.int .i64 (4)))), opAt P 35 3 0, (some (pth 6)), none⟩])
(.seq (.cond (.tmp (pth 6)) .skip
(.exit 0))
(.seq (.block 1 (.seq (.seqr [⟨(.mv (.tmp (pth 5))), opAt P 35 4 0, (some (pth 7)), none⟩,
⟨(.mv (.tmp (pth 7))), opAt P 35 4 1, (some (pth 4)), none⟩])
(.reg [⟨(.mv (.tmp (pth 3))), opAt P 35 5 0, (some (pth 8)), none⟩,
⟨(.mv (.tmp (pth 0))), opAt P 35 5 1, (some (pth 9)), none⟩,
⟨(.mv (.tmp (pth 4))), opAt P 35 5 2, (some (pth 10)), none⟩,
⟨(.nc (.tmp (pth 9))), opAt P 35 5 3, (some (pth 11)), none⟩,
⟨(.fa (.tmp (pth 11)) 0), opAt P 35 5 4, (some (pth 12)), none⟩,
⟨.slow, opAt P 35 5 5, (some (pth 13)), none⟩,
⟨(.mv (.tmp (pth 0))), opAt P 35 5 6, (some (pth 14)), none⟩,
⟨(.mv (.tmp (pth 4))), opAt P 35 5 7, (some (pth 15)), none⟩,
⟨(.nc (.tmp (pth 14))), opAt P 35 5 8, (some (pth 16)), none⟩,
⟨(.fa (.tmp (pth 16)) 4), opAt P 35 5 9, (some (pth 17)), none⟩,
⟨.slow, opAt P 35 5 10, (some (pth 18)), none⟩,
⟨.slow, opAt P 35 5 11, (some (pth 19)), none⟩,
⟨.slow, opAt P 35 5 12, (some (pth 20)), none⟩,
⟨(.mv (.tmp (pth 20))), opAt P 35 5 13, (some (pth 3)), none⟩] [(5, 10)])))
(.seqr [⟨(.bin .add (.tmp (pth 5)) (.val (.int .i64 (1)))), opAt P 35 6 0, (some (pth 21)), none⟩,
⟨(.mv (.tmp (pth 21))), opAt P 35 6 1, (some (pth 5)), none⟩])))))))
(.seq (.seqr [⟨(.mv (.tmp (pth 3))), opAt P 35 7 0, (some (pth 22)), none⟩,
⟨(.mv (.tmp (pth 22))), opAt P 35 7 1, (some (pth 2)), none⟩])
.ret)))), [.tmp (pth 2)]⟩
theorem cf35_ok : cFn Try.prog 35 = some (cf35 Try.prog) := by kernel_rfl
def cf36 (P : Program) : FF := ⟨23, (.seq (.seqr [⟨.slow, opAt P 36 0 0, (some (pth 5)), none⟩,
⟨(.mv (.val (.bool false))), opAt P 36 0 1, (some (pth 6)), none⟩])
(.seq (.seqr [⟨(.mv (.tmp (pth 0))), opAt P 36 1 0, (some (pth 7)), none⟩,
⟨(.bin .neq (.tmp (pth 7)) (.val (.pointer none))), opAt P 36 1 1, (some (pth 8)), none⟩,
⟨(.mv (.tmp (pth 8))), opAt P 36 1 2, (some (pth 9)), none⟩,
⟨(.mv (.tmp (pth 1))), opAt P 36 1 3, (some (pth 10)), (some ((pth 9), true))⟩,
⟨.slow, opAt P 36 1 4, (some (pth 11)), (some ((pth 9), true))⟩,
⟨(.bin .geq (.tmp (pth 11)) (.val (.int .i64 (1)))), opAt P 36 1 5, (some (pth 12)), (some ((pth 9), true))⟩,
⟨(.pick (.tmp (pth 9)) (.tmp (pth 12)) (.val (.bool false))), opAt P 36 1 6, (some (pth 13)), none⟩,
⟨(.mv (.tmp (pth 13))), opAt P 36 1 7, (some (pth 14)), none⟩,
⟨(.mv (.tmp (pth 1))), opAt P 36 1 8, (some (pth 15)), (some ((pth 14), true))⟩,
⟨.slow, opAt P 36 1 9, (some (pth 16)), (some ((pth 14), true))⟩,
⟨(.bin .leq (.tmp (pth 16)) (.val (.int .i64 (16)))), opAt P 36 1 10, (some (pth 17)), (some ((pth 14), true))⟩,
⟨(.pick (.tmp (pth 14)) (.tmp (pth 17)) (.val (.bool false))), opAt P 36 1 11, (some (pth 18)), none⟩,
⟨(.mv (.tmp (pth 18))), opAt P 36 1 12, (some (pth 19)), none⟩,
⟨(.ld 37 (.tmp (pth 5))), opAt P 36 1 13, (some (pth 20)), (some ((pth 19), true))⟩,
⟨(.call 63 [(.tmp (pth 20))]), opAt P 36 1 14, (some (pth 21)), (some ((pth 19), true))⟩,
⟨(.pick (.tmp (pth 19)) (.tmp (pth 21)) (.val (.bool false))), opAt P 36 1 15, (some (pth 22)), none⟩,
⟨(.mv (.tmp (pth 22))), opAt P 36 1 16, (some (pth 6)), none⟩])
.ret)), [.tmp (pth 6)]⟩
theorem cf36_ok : cFn Try.prog 36 = some (cf36 Try.prog) := by kernel_rfl
def cf37 (P : Program) : FF := ⟨37, (.seq (.seqr [⟨.slow, opAt P 37 0 0, (some (pth 2)), none⟩,
⟨(.mv (.val (.bool false))), opAt P 37 0 1, (some (pth 3)), none⟩])
(.seq (.seqr [⟨.slow, opAt P 37 1 0, (some (pth 4)), none⟩])
(.seq (.seq (.seqr [⟨(.mv (.tmp (pth 0))), opAt P 37 2 0, (some (pth 9)), none⟩,
⟨.slow, opAt P 37 2 1, (some (pth 10)), none⟩,
⟨(.mv (.val (.int .i64 (0)))), opAt P 37 2 2, (some (pth 11)), none⟩])
(.block 0 (.loop (.seq (.seqr [⟨(.bin .lss (.tmp (pth 11)) (.tmp (pth 10))), opAt P 37 3 0, (some (pth 12)), none⟩])
(.seq (.cond (.tmp (pth 12)) .skip
(.exit 0))
(.seq (.block 1 (.seq (.seqr [⟨(.ia (.tmp (pth 9)) (.tmp (pth 11)) 4), opAt P 37 4 0, (some (pth 13)), none⟩,
⟨(.ld 37 (.tmp (pth 13))), opAt P 37 4 1, (some (pth 14)), none⟩,
⟨.slow, opAt P 37 4 2, (some (pth 6)), none⟩,
⟨(.st 37 (.tmp (pth 6)) (.tmp (pth 14))), opAt P 37 4 3, none, none⟩])
(.seq (.seq (.seqr [⟨(.ld 37 (.tmp (pth 6))), opAt P 37 5 0, (some (pth 15)), none⟩,
⟨(.call 63 [(.tmp (pth 15))]), opAt P 37 5 1, (some (pth 16)), none⟩,
⟨(.un .not (.tmp (pth 16))), opAt P 37 5 2, (some (pth 17)), none⟩])
(.cond (.tmp (pth 17)) (.seq (.seqr [⟨.slow, opAt P 37 6 0, (some (pth 18)), none⟩,
⟨(.st 37 (.tmp (pth 2)) (.tmp (pth 18))), opAt P 37 6 1, none, none⟩,
⟨(.mv (.val (.bool false))), opAt P 37 6 2, (some (pth 3)), none⟩])
.ret)
.skip))
(.seq (.seq (.seqr [⟨(.ld 37 (.tmp (pth 6))), opAt P 37 7 0, (some (pth 19)), none⟩,
⟨(.mv (.val (.int .i64 (0)))), opAt P 37 7 1, (some (pth 20)), none⟩])
(.block 2 (.loop (.seq (.seqr [⟨(.bin .lss (.tmp (pth 20)) (.val (.int .i64 (4)))), opAt P 37 8 0, (some (pth 21)), none⟩])
(.seq (.cond (.tmp (pth 21)) .skip
(.exit 2))
(.seq (.block 3 (.seq (.seqr [⟨(.mv (.tmp (pth 20))), opAt P 37 9 0, (some (pth 22)), none⟩,
⟨.slow, opAt P 37 9 1, (some (pth 23)), none⟩,
⟨(.mv (.tmp (pth 22))), opAt P 37 9 2, (some (pth 7)), none⟩,
⟨(.mv (.tmp (pth 23))), opAt P 37 9 3, (some (pth 8)), none⟩])
(.seqr [⟨(.mv (.tmp (pth 7))), opAt P 37 10 0, (some (pth 24)), none⟩,
⟨.slow, opAt P 37 10 1, (some (pth 25)), none⟩,
⟨(.ld 3 (.tmp (pth 25))), opAt P 37 10 2, (some (pth 26)), none⟩,
⟨(.mv (.tmp (pth 8))), opAt P 37 10 3, (some (pth 27)), none⟩,
⟨(.bin .add (.tmp (pth 26)) (.tmp (pth 27))), opAt P 37 10 4, (some (pth 28)), none⟩,
⟨.slow, opAt P 37 10 5, (some (pth 29)), none⟩,
⟨(.st 3 (.tmp (pth 29)) (.tmp (pth 28))), opAt P 37 10 6, none, none⟩])))
(.seqr [⟨(.bin .add (.tmp (pth 20)) (.val (.int .i64 (1)))), opAt P 37 11 0, (some (pth 30)), none⟩,
⟨(.mv (.tmp (pth 30))), opAt P 37 11 1, (some (pth 20)), none⟩])))))))
(.seq (.seqr [⟨(.ld 37 (.tmp (pth 4))), opAt P 37 12 0, (some (pth 31)), none⟩,
⟨(.call 63 [(.tmp (pth 31))]), opAt P 37 12 1, (some (pth 32)), none⟩,
⟨(.un .not (.tmp (pth 32))), opAt P 37 12 2, (some (pth 33)), none⟩])
(.cond (.tmp (pth 33)) (.seq (.seqr [⟨.slow, opAt P 37 13 0, (some (pth 34)), none⟩,
⟨(.st 37 (.tmp (pth 2)) (.tmp (pth 34))), opAt P 37 13 1, none, none⟩,
⟨(.mv (.val (.bool false))), opAt P 37 13 2, (some (pth 3)), none⟩])
.ret)
.skip))))))
(.seqr [⟨(.bin .add (.tmp (pth 11)) (.val (.int .i64 (1)))), opAt P 37 14 0, (some (pth 35)), none⟩,
⟨(.mv (.tmp (pth 35))), opAt P 37 14 1, (some (pth 11)), none⟩])))))))
(.seq (.seqr [⟨(.ld 37 (.tmp (pth 4))), opAt P 37 15 0, (some (pth 36)), none⟩,
⟨(.st 37 (.tmp (pth 2)) (.tmp (pth 36))), opAt P 37 15 1, none, none⟩,
⟨(.mv (.val (.bool true))), opAt P 37 15 2, (some (pth 3)), none⟩])
.ret)))), [.cell (pth 2) 37, .tmp (pth 3)]⟩
theorem cf37_ok : cFn Try.prog 37 = some (cf37 Try.prog) := by kernel_rfl
def cf38 (P : Program) : FF := ⟨29, (.seq (.seqr [⟨.slow, opAt P 38 0 0, (some (pth 5)), none⟩])
(.seq (.seq (.seqr [⟨(.ld 37 (.tmp (pth 5))), opAt P 38 1 0, (some (pth 6)), none⟩,
⟨.slow, opAt P 38 1 1, (some (pth 7)), none⟩,
⟨(.bin .eql (.tmp (pth 6)) (.tmp (pth 7))), opAt P 38 1 2, (some (pth 8)), none⟩])
(.cond (.tmp (pth 8)) (.seq (.seqr [⟨(.mv (.tmp (pth 0))), opAt P 38 2 0, (some (pth 9)), none⟩,
⟨(.nc (.tmp (pth 9))), opAt P 38 2 1, (some (pth 10)), none⟩,
⟨(.fa (.tmp (pth 10)) 0), opAt P 38 2 2, (some (pth 11)), none⟩,
⟨(.ld 88 (.tmp (pth 11))), opAt P 38 2 3, (some (pth 12)), none⟩,
⟨(.mv (.tmp (pth 1))), opAt P 38 2 4, (some (pth 13)), none⟩,
⟨.slow, opAt P 38 2 5, none, none⟩])
.ret)
.skip))
(.seq (.seq (.seqr [⟨(.mv (.tmp (pth 0))), opAt P 38 3 0, (some (pth 14)), none⟩,
⟨(.nc (.tmp (pth 14))), opAt P 38 3 1, (some (pth 15)), none⟩,
⟨(.fa (.tmp (pth 15)) 0), opAt P 38 3 2, (some (pth 16)), none⟩,
⟨(.ld 88 (.tmp (pth 16))), opAt P 38 3 3, (some (pth 17)), none⟩,
⟨(.bin .eql (.tmp (pth 17)) (.val (.map none))), opAt P 38 3 4, (some (pth 18)), none⟩])
(.cond (.tmp (pth 18)) (.seqr [⟨(.mv (.tmp (pth 0))), opAt P 38 4 0, (some (pth 19)), none⟩,
⟨.slow, opAt P 38 4 1, (some (pth 20)), none⟩,
⟨(.nc (.tmp (pth 19))), opAt P 38 4 2, (some (pth 21)), none⟩,
⟨(.fa (.tmp (pth 21)) 0), opAt P 38 4 3, (some (pth 22)), none⟩,
⟨(.st 88 (.tmp (pth 22)) (.tmp (pth 20))), opAt P 38 4 4, none, none⟩])
.skip))
(.reg [⟨(.mv (.tmp (pth 0))), opAt P 38 5 0, (some (pth 23)), none⟩,
⟨(.nc (.tmp (pth 23))), opAt P 38 5 1, (some (pth 24)), none⟩,
⟨(.fa (.tmp (pth 24)) 0), opAt P 38 5 2, (some (pth 25)), none⟩,
⟨(.ld 88 (.tmp (pth 25))), opAt P 38 5 3, (some (pth 26)), none⟩,
⟨(.mv (.tmp (pth 1))), opAt P 38 5 4, (some (pth 27)), none⟩,
⟨(.ld 37 (.tmp (pth 5))), opAt P 38 5 5, (some (pth 28)), none⟩,
⟨.slow, opAt P 38 5 6, none, none⟩] [(3, 5)])))), []⟩
theorem cf38_ok : cFn Try.prog 38 = some (cf38 Try.prog) := by kernel_rfl
def cf39 (P : Program) : FF := ⟨33, (.seq (.seqr [⟨(.mv (.val (.pointer none))), opAt P 39 0 0, (some (pth 2)), none⟩,
⟨(.mv (.val (.int .i64 (0)))), opAt P 39 0 1, (some (pth 3)), none⟩])
(.seq (.seqr [⟨(.call 10 []), opAt P 39 1 0, (some (pth 10)), none⟩,
⟨(.mv (.tmp (pth 10))), opAt P 39 1 1, (some (pth 4)), none⟩])
(.seq (.seq (.seqr [⟨(.mv (.tmp (pth 0))), opAt P 39 2 0, (some (pth 11)), none⟩,
⟨.slow, opAt P 39 2 1, (some (pth 12)), none⟩,
⟨(.mv (.val (.int .i64 (0)))), opAt P 39 2 2, (some (pth 13)), none⟩])
(.block 0 (.loop (.seq (.seqr [⟨(.bin .lss (.tmp (pth 13)) (.tmp (pth 12))), opAt P 39 3 0, (some (pth 14)), none⟩])
(.seq (.cond (.tmp (pth 14)) .skip
(.exit 0))
(.seq (.block 1 (.seq (.seqr [⟨(.ia (.tmp (pth 11)) (.tmp (pth 13)) 6), opAt P 39 4 0, (some (pth 15)), none⟩,
⟨(.ld 23 (.tmp (pth 15))), opAt P 39 4 1, (some (pth 16)), none⟩,
⟨.slow, opAt P 39 4 2, (some (pth 6)), none⟩,
⟨(.st 23 (.tmp (pth 6)) (.tmp (pth 16))), opAt P 39 4 3, none, none⟩])
(.seq (.seqr [⟨(.mv (.tmp (pth 4))), opAt P 39 5 0, (some (pth 18)), none⟩,
⟨(.ld 23 (.tmp (pth 6))), opAt P 39 5 1, (some (pth 19)), none⟩,
⟨(.call 11 [(.tmp (pth 18)), (.tmp (pth 19))]), opAt P 39 5 2, (some (pth 20)), none⟩,
⟨(.mv (.tmp (pth 20))), opAt P 39 5 3, (some (pth 17)), none⟩,
⟨(.ext (.tmp (pth 17)) 0), opAt P 39 5 4, (some (pth 21)), none⟩,
⟨(.ext (.tmp (pth 17)) 1), opAt P 39 5 5, (some (pth 22)), none⟩,
⟨(.ext (.tmp (pth 17)) 2), opAt P 39 5 6, (some (pth 23)), none⟩,
⟨(.mv (.tmp (pth 21))), opAt P 39 5 7, (some (pth 7)), none⟩,
⟨(.mv (.tmp (pth 22))), opAt P 39 5 8, (some (pth 8)), none⟩,
⟨(.mv (.tmp (pth 23))), opAt P 39 5 9, (some (pth 9)), none⟩])
(.seq (.seqr [⟨(.mv (.tmp (pth 9))), opAt P 39 6 0, (some (pth 24)), none⟩,
⟨(.bin .neq (.tmp (pth 24)) (.val (.int .i64 (0)))), opAt P 39 6 1, (some (pth 25)), none⟩,
⟨(.mv (.tmp (pth 25))), opAt P 39 6 2, (some (pth 26)), none⟩,
⟨(.mv (.tmp (pth 7))), opAt P 39 6 3, (some (pth 27)), (some ((pth 26), false))⟩,
⟨.slow, opAt P 39 6 4, (some (pth 28)), (some ((pth 26), false))⟩,
⟨(.bin .gtr (.tmp (pth 28)) (.val (.int .i64 (0)))), opAt P 39 6 5, (some (pth 29)), (some ((pth 26), false))⟩,
⟨(.pick (.tmp (pth 26)) (.val (.bool true)) (.tmp (pth 29))), opAt P 39 6 6, (some (pth 30)), none⟩])
(.cond (.tmp (pth 30)) (.seq (.seqr [⟨(.mv (.val (.pointer none))), opAt P 39 7 0, (some (pth 2)), none⟩,
⟨(.mv (.val (.int .i64 (1)))), opAt P 39 7 1, (some (pth 3)), none⟩])
.ret)
.skip)))))
(.seqr [⟨(.bin .add (.tmp (pth 13)) (.val (.int .i64 (1)))), opAt P 39 8 0, (some (pth 31)), none⟩,
⟨(.mv (.tmp (pth 31))), opAt P 39 8 1, (some (pth 13)), none⟩])))))))
(.seq (.seqr [⟨(.mv (.tmp (pth 4))), opAt P 39 9 0, (some (pth 32)), none⟩,
⟨(.mv (.tmp (pth 32))), opAt P 39 9 1, (some (pth 2)), none⟩,
⟨(.mv (.val (.int .i64 (0)))), opAt P 39 9 2, (some (pth 3)), none⟩])
.ret)))), [.tmp (pth 2), .tmp (pth 3)]⟩
theorem cf39_ok : cFn Try.prog 39 = some (cf39 Try.prog) := by kernel_rfl
def cf40 (P : Program) : FF := ⟨18, (.seq (.seqr [⟨.slow, opAt P 40 0 0, (some (pth 1)), none⟩,
⟨.slow, opAt P 40 0 1, (some (pth 2)), none⟩])
(.seq (.seqr [⟨.slow, opAt P 40 1 0, (some (pth 3)), none⟩])
(.seq (.seq (.seqr [⟨(.fa (.tmp (pth 1)) 2), opAt P 40 2 0, (some (pth 4)), none⟩,
⟨(.ld 4 (.tmp (pth 4))), opAt P 40 2 1, (some (pth 5)), none⟩])
(.cond (.tmp (pth 5)) (.seqr [⟨(.fa (.tmp (pth 1)) 4), opAt P 40 3 0, (some (pth 6)), none⟩,
⟨(.ld 3 (.tmp (pth 6))), opAt P 40 3 1, (some (pth 7)), none⟩,
⟨(.fa (.tmp (pth 1)) 5), opAt P 40 3 2, (some (pth 8)), none⟩,
⟨(.ld 3 (.tmp (pth 8))), opAt P 40 3 3, (some (pth 9)), none⟩,
⟨(.bin .mul (.tmp (pth 7)) (.tmp (pth 9))), opAt P 40 3 4, (some (pth 10)), none⟩,
⟨.slow, opAt P 40 3 5, (some (pth 11)), none⟩,
⟨(.st 3 (.tmp (pth 11)) (.tmp (pth 10))), opAt P 40 3 6, none, none⟩])
(.seqr [⟨(.fa (.tmp (pth 1)) 3), opAt P 40 4 0, (some (pth 12)), none⟩,
⟨(.ld 3 (.tmp (pth 12))), opAt P 40 4 1, (some (pth 13)), none⟩,
⟨(.fa (.tmp (pth 1)) 4), opAt P 40 4 2, (some (pth 14)), none⟩,
⟨(.ld 3 (.tmp (pth 14))), opAt P 40 4 3, (some (pth 15)), none⟩,
⟨.slow, opAt P 40 4 4, (some (pth 16)), none⟩,
⟨(.st 3 (.tmp (pth 16)) (.tmp (pth 15))), opAt P 40 4 5, none, none⟩])))
(.seq (.seqr [⟨(.ld 37 (.tmp (pth 3))), opAt P 40 5 0, (some (pth 17)), none⟩,
⟨(.st 37 (.tmp (pth 2)) (.tmp (pth 17))), opAt P 40 5 1, none, none⟩])
.ret)))), [.cell (pth 2) 37]⟩
theorem cf40_ok : cFn Try.prog 40 = some (cf40 Try.prog) := by kernel_rfl
def cf41 (P : Program) : FF := ⟨29, (.seq (.seqr [⟨.slow, opAt P 41 0 0, (some (pth 3)), none⟩])
(.seq (.seqr [⟨(.mv (.tmp (pth 1))), opAt P 41 1 0, (some (pth 6)), none⟩,
⟨(.fa (.tmp (pth 3)) 4), opAt P 41 1 1, (some (pth 7)), none⟩,
⟨(.ld 3 (.tmp (pth 7))), opAt P 41 1 2, (some (pth 8)), none⟩,
⟨(.fa (.tmp (pth 3)) 5), opAt P 41 1 3, (some (pth 9)), none⟩,
⟨(.ld 3 (.tmp (pth 9))), opAt P 41 1 4, (some (pth 10)), none⟩,
⟨.slow, opAt P 41 1 5, (some (pth 11)), none⟩])
(.seq (.seqr [⟨(.mv (.tmp (pth 1))), opAt P 41 2 0, (some (pth 12)), none⟩,
⟨(.fa (.tmp (pth 3)) 5), opAt P 41 2 1, (some (pth 13)), none⟩,
⟨(.ld 3 (.tmp (pth 13))), opAt P 41 2 2, (some (pth 14)), none⟩,
⟨(.fa (.tmp (pth 3)) 7), opAt P 41 2 3, (some (pth 15)), none⟩,
⟨(.ld 3 (.tmp (pth 15))), opAt P 41 2 4, (some (pth 16)), none⟩,
⟨(.fa (.tmp (pth 3)) 6), opAt P 41 2 5, (some (pth 17)), none⟩,
⟨(.ld 3 (.tmp (pth 17))), opAt P 41 2 6, (some (pth 18)), none⟩,
⟨(.bin .sub (.tmp (pth 16)) (.tmp (pth 18))), opAt P 41 2 7, (some (pth 19)), none⟩,
⟨(.bin .mul (.tmp (pth 14)) (.tmp (pth 19))), opAt P 41 2 8, (some (pth 20)), none⟩,
⟨.slow, opAt P 41 2 9, (some (pth 21)), none⟩])
(.seqr [⟨(.mv (.tmp (pth 2))), opAt P 41 3 0, (some (pth 22)), none⟩,
⟨(.fa (.tmp (pth 3)) 5), opAt P 41 3 1, (some (pth 23)), none⟩,
⟨(.ld 3 (.tmp (pth 23))), opAt P 41 3 2, (some (pth 24)), none⟩,
⟨(.fa (.tmp (pth 3)) 6), opAt P 41 3 3, (some (pth 25)), none⟩,
⟨(.ld 3 (.tmp (pth 25))), opAt P 41 3 4, (some (pth 26)), none⟩,
⟨(.bin .mul (.tmp (pth 24)) (.tmp (pth 26))), opAt P 41 3 5, (some (pth 27)), none⟩,
⟨.slow, opAt P 41 3 6, (some (pth 28)), none⟩])))), []⟩
theorem cf41_ok : cFn Try.prog 41 = some (cf41 Try.prog) := by kernel_rfl
def cf42 (P : Program) : FF := ⟨8, (.seq (.seqr [⟨.slow, opAt P 42 0 0, (some (pth 4)), none⟩])
(.seq (.seqr [⟨(.mv (.tmp (pth 0))), opAt P 42 1 0, (some (pth 5)), none⟩,
⟨(.mv (.tmp (pth 1))), opAt P 42 1 1, (some (pth 6)), none⟩,
⟨.slow, opAt P 42 1 2, (some (pth 7)), none⟩,
⟨(.st 101 (.tmp (pth 4)) (.tmp (pth 7))), opAt P 42 1 3, none, none⟩])
.ret)), [.cell (pth 4) 101]⟩
theorem cf42_ok : cFn Try.prog 42 = some (cf42 Try.prog) := by kernel_rfl
def cf43 (P : Program) : FF := ⟨26, (.seq (.seqr [⟨.slow, opAt P 43 0 0, (some (pth 3)), none⟩])
(.seq (.seqr [⟨(.fa (.tmp (pth 3)) 0), opAt P 43 1 0, (some (pth 7)), none⟩,
⟨(.ld 33 (.tmp (pth 7))), opAt P 43 1 1, (some (pth 8)), none⟩,
⟨(.fa (.tmp (pth 3)) 1), opAt P 43 1 2, (some (pth 9)), none⟩,
⟨(.ld 9 (.tmp (pth 9))), opAt P 43 1 3, (some (pth 10)), none⟩,
⟨(.call 19 [(.tmp (pth 8)), (.tmp (pth 10))]), opAt P 43 1 4, (some (pth 11)), none⟩,
⟨.slow, opAt P 43 1 5, (some (pth 6)), none⟩,
⟨(.st 37 (.tmp (pth 6)) (.tmp (pth 11))), opAt P 43 1 6, none, none⟩])
(.seq (.seqr [⟨(.mv (.tmp (pth 1))), opAt P 43 2 0, (some (pth 12)), none⟩,
⟨(.mv (.tmp (pth 1))), opAt P 43 2 1, (some (pth 13)), none⟩,
⟨.slow, opAt P 43 2 2, (some (pth 14)), none⟩,
⟨(.ld 3 (.tmp (pth 14))), opAt P 43 2 3, (some (pth 15)), none⟩,
⟨(.mv (.tmp (pth 2))), opAt P 43 2 4, (some (pth 16)), none⟩,
⟨(.bin .add (.tmp (pth 15)) (.tmp (pth 16))), opAt P 43 2 5, (some (pth 17)), none⟩,
⟨.slow, opAt P 43 2 6, (some (pth 18)), none⟩,
⟨.slow, opAt P 43 2 7, (some (pth 19)), none⟩,
⟨(.st 3 (.tmp (pth 19)) (.tmp (pth 18))), opAt P 43 2 8, none, none⟩])
(.seqr [⟨(.fa (.tmp (pth 3)) 0), opAt P 43 3 0, (some (pth 20)), none⟩,
⟨(.ld 33 (.tmp (pth 20))), opAt P 43 3 1, (some (pth 21)), none⟩,
⟨(.fa (.tmp (pth 3)) 1), opAt P 43 3 2, (some (pth 22)), none⟩,
⟨(.ld 9 (.tmp (pth 22))), opAt P 43 3 3, (some (pth 23)), none⟩,
⟨(.ld 37 (.tmp (pth 6))), opAt P 43 3 4, (some (pth 24)), none⟩,
⟨(.call 38 [(.tmp (pth 21)), (.tmp (pth 23)), (.tmp (pth 24))]), opAt P 43 3 5, (some (pth 25)), none⟩])))), []⟩
theorem cf43_ok : cFn Try.prog 43 = some (cf43 Try.prog) := by kernel_rfl
def cf44 (P : Program) : FF := ⟨24, (.seq (.seqr [⟨(.mv (.val (.slice none 0 0))), opAt P 44 0 0, (some (pth 2)), none⟩])
(.seq (.seq (.seqr [⟨(.mv (.tmp (pth 0))), opAt P 44 1 0, (some (pth 6)), none⟩,
⟨(.bin .eql (.tmp (pth 6)) (.val (.pointer none))), opAt P 44 1 1, (some (pth 7)), none⟩])
(.cond (.tmp (pth 7)) (.seq (.seqr [⟨(.mv (.val (.slice none 0 0))), opAt P 44 2 0, (some (pth 2)), none⟩])
.ret)
.skip))
(.seq (.seqr [⟨(.mv (.val (.slice none 0 0))), opAt P 44 3 0, (some (pth 3)), none⟩])
(.seq (.seq (.seqr [⟨(.mv (.tmp (pth 0))), opAt P 44 4 0, (some (pth 8)), none⟩,
⟨(.call 35 [(.tmp (pth 8))]), opAt P 44 4 1, (some (pth 9)), none⟩,
⟨.slow, opAt P 44 4 2, (some (pth 10)), none⟩,
⟨(.mv (.val (.int .i64 (0)))), opAt P 44 4 3, (some (pth 11)), none⟩])
(.block 0 (.loop (.seq (.seqr [⟨(.bin .lss (.tmp (pth 11)) (.tmp (pth 10))), opAt P 44 5 0, (some (pth 12)), none⟩])
(.seq (.cond (.tmp (pth 12)) .skip
(.exit 0))
(.seq (.block 1 (.seq (.seqr [⟨(.ia (.tmp (pth 9)) (.tmp (pth 11)) 1), opAt P 44 6 0, (some (pth 13)), none⟩,
⟨(.ld 78 (.tmp (pth 13))), opAt P 44 6 1, (some (pth 14)), none⟩,
⟨(.mv (.tmp (pth 14))), opAt P 44 6 2, (some (pth 5)), none⟩])
(.seqr [⟨(.mv (.tmp (pth 3))), opAt P 44 7 0, (some (pth 15)), none⟩,
⟨(.mv (.tmp (pth 5))), opAt P 44 7 1, (some (pth 16)), none⟩,
⟨(.nc (.tmp (pth 16))), opAt P 44 7 2, (some (pth 17)), none⟩,
⟨(.ld 74 (.tmp (pth 17))), opAt P 44 7 3, (some (pth 18)), none⟩,
⟨.slow, opAt P 44 7 4, (some (pth 19)), none⟩,
⟨(.mv (.tmp (pth 19))), opAt P 44 7 5, (some (pth 3)), none⟩])))
(.seqr [⟨(.bin .add (.tmp (pth 11)) (.val (.int .i64 (1)))), opAt P 44 8 0, (some (pth 20)), none⟩,
⟨(.mv (.tmp (pth 20))), opAt P 44 8 1, (some (pth 11)), none⟩])))))))
(.seq (.seqr [⟨(.mv (.tmp (pth 3))), opAt P 44 9 0, (some (pth 21)), none⟩,
⟨(.call 64 [(.tmp (pth 21)), (.val (.func (.func 65) #[] #[]))]), opAt P 44 9 1, (some (pth 22)), none⟩])
(.seq (.seqr [⟨(.mv (.tmp (pth 3))), opAt P 44 10 0, (some (pth 23)), none⟩,
⟨(.mv (.tmp (pth 23))), opAt P 44 10 1, (some (pth 2)), none⟩])
.ret)))))), [.tmp (pth 2)]⟩
theorem cf44_ok : cFn Try.prog 44 = some (cf44 Try.prog) := by kernel_rfl
def cf45 (P : Program) : FF := ⟨41, (.seq (.seqr [⟨.slow, opAt P 45 0 0, (some (pth 4)), none⟩,
⟨(.mv (.val (.int .i64 (0)))), opAt P 45 0 1, (some (pth 5)), none⟩])
(.seq (.seq (.seqr [⟨(.mv (.tmp (pth 0))), opAt P 45 1 0, (some (pth 10)), none⟩,
⟨(.bin .eql (.tmp (pth 10)) (.val (.pointer none))), opAt P 45 1 1, (some (pth 11)), none⟩])
(.cond (.tmp (pth 11)) (.seq (.seqr [⟨.slow, opAt P 45 2 0, (some (pth 12)), none⟩,
⟨(.st 23 (.tmp (pth 4)) (.tmp (pth 12))), opAt P 45 2 1, none, none⟩,
⟨(.mv (.val (.int .i64 (1)))), opAt P 45 2 2, (some (pth 5)), none⟩])
.ret)
.skip))
(.seq (.seq (.seqr [⟨(.mv (.tmp (pth 0))), opAt P 45 3 0, (some (pth 13)), none⟩,
⟨(.call 35 [(.tmp (pth 13))]), opAt P 45 3 1, (some (pth 14)), none⟩,
⟨.slow, opAt P 45 3 2, (some (pth 15)), none⟩,
⟨(.mv (.val (.int .i64 (0)))), opAt P 45 3 3, (some (pth 16)), none⟩])
(.block 0 (.loop (.seq (.seqr [⟨(.bin .lss (.tmp (pth 16)) (.tmp (pth 15))), opAt P 45 4 0, (some (pth 17)), none⟩])
(.seq (.cond (.tmp (pth 17)) .skip
(.exit 0))
(.seq (.block 1 (.seq (.seqr [⟨(.ia (.tmp (pth 14)) (.tmp (pth 16)) 1), opAt P 45 5 0, (some (pth 18)), none⟩,
⟨(.ld 78 (.tmp (pth 18))), opAt P 45 5 1, (some (pth 19)), none⟩,
⟨(.mv (.tmp (pth 19))), opAt P 45 5 2, (some (pth 7)), none⟩])
(.seq (.seqr [⟨(.mv (.tmp (pth 7))), opAt P 45 6 0, (some (pth 20)), none⟩,
⟨(.nc (.tmp (pth 20))), opAt P 45 6 1, (some (pth 21)), none⟩,
⟨(.ld 74 (.tmp (pth 21))), opAt P 45 6 2, (some (pth 22)), none⟩,
⟨.slow, opAt P 45 6 3, (some (pth 23)), none⟩,
⟨(.mv (.val (.int .i64 (0)))), opAt P 45 6 4, (some (pth 24)), none⟩])
(.block 2 (.loop (.seq (.seqr [⟨(.bin .lss (.tmp (pth 24)) (.tmp (pth 23))), opAt P 45 7 0, (some (pth 25)), none⟩])
(.seq (.cond (.tmp (pth 25)) .skip
(.exit 2))
(.seq (.block 3 (.seq (.seqr [⟨(.mv (.tmp (pth 24))), opAt P 45 8 0, (some (pth 26)), none⟩,
⟨(.ia (.tmp (pth 22)) (.tmp (pth 24)) 6), opAt P 45 8 1, (some (pth 27)), none⟩,
⟨(.ld 23 (.tmp (pth 27))), opAt P 45 8 2, (some (pth 28)), none⟩,
⟨.slow, opAt P 45 8 3, (some (pth 9)), none⟩,
⟨(.mv (.tmp (pth 26))), opAt P 45 8 4, (some (pth 8)), none⟩,
⟨(.st 23 (.tmp (pth 9)) (.tmp (pth 28))), opAt P 45 8 5, none, none⟩])
(.seq (.seqr [⟨(.fa (.tmp (pth 9)) 0), opAt P 45 9 0, (some (pth 29)), none⟩,
⟨(.ld 3 (.tmp (pth 29))), opAt P 45 9 1, (some (pth 30)), none⟩,
⟨(.mv (.tmp (pth 1))), opAt P 45 9 2, (some (pth 31)), none⟩,
⟨(.bin .eql (.tmp (pth 30)) (.tmp (pth 31))), opAt P 45 9 3, (some (pth 32)), none⟩])
(.cond (.tmp (pth 32)) (.seq (.seqr [⟨(.mv (.tmp (pth 7))), opAt P 45 10 0, (some (pth 33)), none⟩,
⟨.slow, opAt P 45 10 1, (some (pth 34)), none⟩,
⟨(.mv (.tmp (pth 8))), opAt P 45 10 2, (some (pth 35)), none⟩,
⟨(.call 67 [(.tmp (pth 34)), (.tmp (pth 35))]), opAt P 45 10 3, (some (pth 36)), none⟩])
(.seq (.seqr [⟨(.ld 23 (.tmp (pth 9))), opAt P 45 11 0, (some (pth 37)), none⟩,
⟨(.st 23 (.tmp (pth 4)) (.tmp (pth 37))), opAt P 45 11 1, none, none⟩,
⟨(.mv (.val (.int .i64 (0)))), opAt P 45 11 2, (some (pth 5)), none⟩])
.ret))
.skip))))
(.seqr [⟨(.bin .add (.tmp (pth 24)) (.val (.int .i64 (1)))), opAt P 45 12 0, (some (pth 38)), none⟩,
⟨(.mv (.tmp (pth 38))), opAt P 45 12 1, (some (pth 24)), none⟩])))))))))
(.seqr [⟨(.bin .add (.tmp (pth 16)) (.val (.int .i64 (1)))), opAt P 45 13 0, (some (pth 39)), none⟩,
⟨(.mv (.tmp (pth 39))), opAt P 45 13 1, (some (pth 16)), none⟩])))))))
(.seq (.seqr [⟨.slow, opAt P 45 14 0, (some (pth 40)), none⟩,
⟨(.st 23 (.tmp (pth 4)) (.tmp (pth 40))), opAt P 45 14 1, none, none⟩,
⟨(.mv (.val (.int .i64 (7)))), opAt P 45 14 2, (some (pth 5)), none⟩])
.ret)))), [.cell (pth 4) 23, .tmp (pth 5)]⟩
theorem cf45_ok : cFn Try.prog 45 = some (cf45 Try.prog) := by kernel_rfl
def cf46 (P : Program) : FF := ⟨35, (.seq (.seqr [⟨.slow, opAt P 46 0 0, (some (pth 2)), none⟩,
⟨.slow, opAt P 46 0 1, (some (pth 3)), none⟩,
⟨.slow, opAt P 46 0 2, (some (pth 4)), none⟩,
⟨(.mv (.val (.bool false))), opAt P 46 0 3, (some (pth 5)), none⟩])
(.seq (.seq (.seqr [⟨(.ld 37 (.tmp (pth 2))), opAt P 46 1 0, (some (pth 8)), none⟩,
⟨(.call 63 [(.tmp (pth 8))]), opAt P 46 1 1, (some (pth 9)), none⟩,
⟨(.un .not (.tmp (pth 9))), opAt P 46 1 2, (some (pth 10)), none⟩,
⟨(.mv (.tmp (pth 10))), opAt P 46 1 3, (some (pth 11)), none⟩,
⟨(.ld 37 (.tmp (pth 3))), opAt P 46 1 4, (some (pth 12)), (some ((pth 11), false))⟩,
⟨(.call 63 [(.tmp (pth 12))]), opAt P 46 1 5, (some (pth 13)), (some ((pth 11), false))⟩,
⟨(.un .not (.tmp (pth 13))), opAt P 46 1 6, (some (pth 14)), (some ((pth 11), false))⟩,
⟨(.pick (.tmp (pth 11)) (.val (.bool true)) (.tmp (pth 14))), opAt P 46 1 7, (some (pth 15)), none⟩,
⟨(.mv (.tmp (pth 15))), opAt P 46 1 8, (some (pth 16)), none⟩,
⟨(.ld 37 (.tmp (pth 2))), opAt P 46 1 9, (some (pth 17)), (some ((pth 16), false))⟩,
⟨(.ld 37 (.tmp (pth 3))), opAt P 46 1 10, (some (pth 18)), (some ((pth 16), false))⟩,
⟨(.call 68 [(.tmp (pth 17)), (.tmp (pth 18))]), opAt P 46 1 11, (some (pth 19)), (some ((pth 16), false))⟩,
⟨(.pick (.tmp (pth 16)) (.val (.bool true)) (.tmp (pth 19))), opAt P 46 1 12, (some (pth 20)), none⟩])
(.cond (.tmp (pth 20)) (.seq (.seqr [⟨.slow, opAt P 46 2 0, (some (pth 21)), none⟩,
⟨(.st 37 (.tmp (pth 4)) (.tmp (pth 21))), opAt P 46 2 1, none, none⟩,
⟨(.mv (.val (.bool false))), opAt P 46 2 2, (some (pth 5)), none⟩])
.ret)
.skip))
(.seq (.seq (.seqr [⟨(.ld 37 (.tmp (pth 3))), opAt P 46 3 0, (some (pth 22)), none⟩,
⟨(.mv (.val (.int .i64 (0)))), opAt P 46 3 1, (some (pth 23)), none⟩])
(.block 0 (.loop (.seq (.seqr [⟨(.bin .lss (.tmp (pth 23)) (.val (.int .i64 (4)))), opAt P 46 4 0, (some (pth 24)), none⟩])
(.seq (.cond (.tmp (pth 24)) .skip
(.exit 0))
(.seq (.block 1 (.seq (.seqr [⟨(.mv (.tmp (pth 23))), opAt P 46 5 0, (some (pth 25)), none⟩,
⟨.slow, opAt P 46 5 1, (some (pth 26)), none⟩,
⟨(.mv (.tmp (pth 25))), opAt P 46 5 2, (some (pth 6)), none⟩,
⟨(.mv (.tmp (pth 26))), opAt P 46 5 3, (some (pth 7)), none⟩])
(.seqr [⟨(.mv (.tmp (pth 6))), opAt P 46 6 0, (some (pth 27)), none⟩,
⟨.slow, opAt P 46 6 1, (some (pth 28)), none⟩,
⟨(.ld 3 (.tmp (pth 28))), opAt P 46 6 2, (some (pth 29)), none⟩,
⟨(.mv (.tmp (pth 7))), opAt P 46 6 3, (some (pth 30)), none⟩,
⟨(.bin .sub (.tmp (pth 29)) (.tmp (pth 30))), opAt P 46 6 4, (some (pth 31)), none⟩,
⟨.slow, opAt P 46 6 5, (some (pth 32)), none⟩,
⟨(.st 3 (.tmp (pth 32)) (.tmp (pth 31))), opAt P 46 6 6, none, none⟩])))
(.seqr [⟨(.bin .add (.tmp (pth 23)) (.val (.int .i64 (1)))), opAt P 46 7 0, (some (pth 33)), none⟩,
⟨(.mv (.tmp (pth 33))), opAt P 46 7 1, (some (pth 23)), none⟩])))))))
(.seq (.seqr [⟨(.ld 37 (.tmp (pth 2))), opAt P 46 8 0, (some (pth 34)), none⟩,
⟨(.st 37 (.tmp (pth 4)) (.tmp (pth 34))), opAt P 46 8 1, none, none⟩,
⟨(.mv (.val (.bool true))), opAt P 46 8 2, (some (pth 5)), none⟩])
.ret)))), [.cell (pth 4) 37, .tmp (pth 5)]⟩
theorem cf46_ok : cFn Try.prog 46 = some (cf46 Try.prog) := by kernel_rfl
def cf61 (P : Program) : FF := ⟨48, (.seq (.seqr [⟨(.mv (.val (.bool false))), opAt P 61 0 0, (some (pth 6)), none⟩])
(.seq (.seqr [⟨(.mv (.tmp (pth 1))), opAt P 61 1 0, (some (pth 11)), none⟩,
⟨(.mv (.tmp (pth 11))), opAt P 61 1 1, (some (pth 7)), none⟩])
(.seq (.block 0 (.loop (.block 1 (.seq (.seqr [⟨(.mv (.tmp (pth 7))), opAt P 61 2 0, (some (pth 12)), none⟩,
⟨(.bin .mul (.val (.int .i64 (2))) (.tmp (pth 12))), opAt P 61 2 1, (some (pth 13)), none⟩,
⟨(.bin .add (.tmp (pth 13)) (.val (.int .i64 (1)))), opAt P 61 2 2, (some (pth 14)), none⟩,
⟨(.mv (.tmp (pth 14))), opAt P 61 2 3, (some (pth 8)), none⟩])
(.seq (.seq (.seqr [⟨(.mv (.tmp (pth 8))), opAt P 61 3 0, (some (pth 15)), none⟩,
⟨(.mv (.tmp (pth 2))), opAt P 61 3 1, (some (pth 16)), none⟩,
⟨(.bin .geq (.tmp (pth 15)) (.tmp (pth 16))), opAt P 61 3 2, (some (pth 17)), none⟩,
⟨(.mv (.tmp (pth 17))), opAt P 61 3 3, (some (pth 18)), none⟩,
⟨(.mv (.tmp (pth 8))), opAt P 61 3 4, (some (pth 19)), (some ((pth 18), false))⟩,
⟨(.bin .lss (.tmp (pth 19)) (.val (.int .i64 (0)))), opAt P 61 3 5, (some (pth 20)), (some ((pth 18), false))⟩,
⟨(.pick (.tmp (pth 18)) (.val (.bool true)) (.tmp (pth 20))), opAt P 61 3 6, (some (pth 21)), none⟩])
(.cond (.tmp (pth 21)) (.exit 0)
.skip))
(.seq (.seqr [⟨(.mv (.tmp (pth 8))), opAt P 61 4 0, (some (pth 22)), none⟩,
⟨(.mv (.tmp (pth 22))), opAt P 61 4 1, (some (pth 9)), none⟩])
(.seq (.seq (.seqr [⟨(.mv (.tmp (pth 8))), opAt P 61 5 0, (some (pth 23)), none⟩,
⟨(.bin .add (.tmp (pth 23)) (.val (.int .i64 (1)))), opAt P 61 5 1, (some (pth 24)), none⟩,
⟨(.mv (.tmp (pth 24))), opAt P 61 5 2, (some (pth 10)), none⟩])
(.seq (.seqr [⟨(.mv (.tmp (pth 10))), opAt P 61 6 0, (some (pth 25)), none⟩,
⟨(.mv (.tmp (pth 2))), opAt P 61 6 1, (some (pth 26)), none⟩,
⟨(.bin .lss (.tmp (pth 25)) (.tmp (pth 26))), opAt P 61 6 2, (some (pth 27)), none⟩,
⟨(.mv (.tmp (pth 27))), opAt P 61 6 3, (some (pth 28)), none⟩,
⟨(.mv (.tmp (pth 0))), opAt P 61 6 4, (some (pth 29)), (some ((pth 28), true))⟩,
⟨(.mv (.tmp (pth 10))), opAt P 61 6 5, (some (pth 30)), (some ((pth 28), true))⟩,
⟨(.mv (.tmp (pth 8))), opAt P 61 6 6, (some (pth 31)), (some ((pth 28), true))⟩,
⟨.slow, opAt P 61 6 7, (some (pth 32)), (some ((pth 28), true))⟩,
⟨(.pick (.tmp (pth 28)) (.tmp (pth 32)) (.val (.bool false))), opAt P 61 6 8, (some (pth 33)), none⟩])
(.cond (.tmp (pth 33)) (.seqr [⟨(.mv (.tmp (pth 10))), opAt P 61 7 0, (some (pth 34)), none⟩,
⟨(.mv (.tmp (pth 34))), opAt P 61 7 1, (some (pth 9)), none⟩])
.skip)))
(.seq (.seq (.seqr [⟨(.mv (.tmp (pth 0))), opAt P 61 8 0, (some (pth 35)), none⟩,
⟨(.mv (.tmp (pth 9))), opAt P 61 8 1, (some (pth 36)), none⟩,
⟨(.mv (.tmp (pth 7))), opAt P 61 8 2, (some (pth 37)), none⟩,
⟨.slow, opAt P 61 8 3, (some (pth 38)), none⟩,
⟨(.un .not (.tmp (pth 38))), opAt P 61 8 4, (some (pth 39)), none⟩])
(.cond (.tmp (pth 39)) (.exit 0)
.skip))
(.seq (.seqr [⟨(.mv (.tmp (pth 0))), opAt P 61 9 0, (some (pth 40)), none⟩,
⟨(.mv (.tmp (pth 7))), opAt P 61 9 1, (some (pth 41)), none⟩,
⟨(.mv (.tmp (pth 9))), opAt P 61 9 2, (some (pth 42)), none⟩,
⟨.slow, opAt P 61 9 3, (some (pth 43)), none⟩])
(.seqr [⟨(.mv (.tmp (pth 9))), opAt P 61 10 0, (some (pth 44)), none⟩,
⟨(.mv (.tmp (pth 44))), opAt P 61 10 1, (some (pth 7)), none⟩]))))))))))
(.seq (.seqr [⟨(.mv (.tmp (pth 7))), opAt P 61 11 0, (some (pth 45)), none⟩,
⟨(.mv (.tmp (pth 1))), opAt P 61 11 1, (some (pth 46)), none⟩,
⟨(.bin .gtr (.tmp (pth 45)) (.tmp (pth 46))), opAt P 61 11 2, (some (pth 47)), none⟩,
⟨(.mv (.tmp (pth 47))), opAt P 61 11 3, (some (pth 6)), none⟩])
.ret)))), [.tmp (pth 6)]⟩
theorem cf61_ok : cFn Try.prog 61 = some (cf61 Try.prog) := by kernel_rfl
def cf62 (P : Program) : FF := ⟨23, (.block 0 (.loop (.block 1 (.seq (.seqr [⟨(.mv (.tmp (pth 1))), opAt P 62 0 0, (some (pth 5)), none⟩,
⟨(.bin .sub (.tmp (pth 5)) (.val (.int .i64 (1)))), opAt P 62 0 1, (some (pth 6)), none⟩,
⟨(.bin .quo (.tmp (pth 6)) (.val (.int .i64 (2)))), opAt P 62 0 2, (some (pth 7)), none⟩,
⟨(.mv (.tmp (pth 7))), opAt P 62 0 3, (some (pth 4)), none⟩])
(.seq (.seq (.seqr [⟨(.mv (.tmp (pth 4))), opAt P 62 1 0, (some (pth 8)), none⟩,
⟨(.mv (.tmp (pth 1))), opAt P 62 1 1, (some (pth 9)), none⟩,
⟨(.bin .eql (.tmp (pth 8)) (.tmp (pth 9))), opAt P 62 1 2, (some (pth 10)), none⟩,
⟨(.mv (.tmp (pth 10))), opAt P 62 1 3, (some (pth 11)), none⟩,
⟨(.mv (.tmp (pth 0))), opAt P 62 1 4, (some (pth 12)), (some ((pth 11), false))⟩,
⟨(.mv (.tmp (pth 1))), opAt P 62 1 5, (some (pth 13)), (some ((pth 11), false))⟩,
⟨(.mv (.tmp (pth 4))), opAt P 62 1 6, (some (pth 14)), (some ((pth 11), false))⟩,
⟨.slow, opAt P 62 1 7, (some (pth 15)), (some ((pth 11), false))⟩,
⟨(.un .not (.tmp (pth 15))), opAt P 62 1 8, (some (pth 16)), (some ((pth 11), false))⟩,
⟨(.pick (.tmp (pth 11)) (.val (.bool true)) (.tmp (pth 16))), opAt P 62 1 9, (some (pth 17)), none⟩])
(.cond (.tmp (pth 17)) (.exit 0)
.skip))
(.seq (.seqr [⟨(.mv (.tmp (pth 0))), opAt P 62 2 0, (some (pth 18)), none⟩,
⟨(.mv (.tmp (pth 4))), opAt P 62 2 1, (some (pth 19)), none⟩,
⟨(.mv (.tmp (pth 1))), opAt P 62 2 2, (some (pth 20)), none⟩,
⟨.slow, opAt P 62 2 3, (some (pth 21)), none⟩])
(.seqr [⟨(.mv (.tmp (pth 4))), opAt P 62 3 0, (some (pth 22)), none⟩,
⟨(.mv (.tmp (pth 22))), opAt P 62 3 1, (some (pth 1)), none⟩]))))))), []⟩
theorem cf62_ok : cFn Try.prog 62 = some (cf62 Try.prog) := by kernel_rfl
def cf63 (P : Program) : FF := ⟨13, (.seq (.seqr [⟨.slow, opAt P 63 0 0, (some (pth 1)), none⟩,
⟨(.mv (.val (.bool false))), opAt P 63 0 1, (some (pth 2)), none⟩])
(.seq (.seq (.seqr [⟨(.ld 37 (.tmp (pth 1))), opAt P 63 1 0, (some (pth 5)), none⟩,
⟨(.mv (.val (.int .i64 (0)))), opAt P 63 1 1, (some (pth 6)), none⟩])
(.block 0 (.loop (.seq (.seqr [⟨(.bin .lss (.tmp (pth 6)) (.val (.int .i64 (4)))), opAt P 63 2 0, (some (pth 7)), none⟩])
(.seq (.cond (.tmp (pth 7)) .skip
(.exit 0))
(.seq (.block 1 (.seq (.seqr [⟨.slow, opAt P 63 3 0, (some (pth 8)), none⟩,
⟨(.mv (.tmp (pth 8))), opAt P 63 3 1, (some (pth 4)), none⟩])
(.seq (.seqr [⟨(.mv (.tmp (pth 4))), opAt P 63 4 0, (some (pth 9)), none⟩,
⟨(.call 87 [(.tmp (pth 9))]), opAt P 63 4 1, (some (pth 10)), none⟩,
⟨(.un .not (.tmp (pth 10))), opAt P 63 4 2, (some (pth 11)), none⟩])
(.cond (.tmp (pth 11)) (.seq (.seqr [⟨(.mv (.val (.bool false))), opAt P 63 5 0, (some (pth 2)), none⟩])
.ret)
.skip))))
(.seqr [⟨(.bin .add (.tmp (pth 6)) (.val (.int .i64 (1)))), opAt P 63 6 0, (some (pth 12)), none⟩,
⟨(.mv (.tmp (pth 12))), opAt P 63 6 1, (some (pth 6)), none⟩])))))))
(.seq (.seqr [⟨(.mv (.val (.bool true))), opAt P 63 7 0, (some (pth 2)), none⟩])
.ret))), [.tmp (pth 2)]⟩
theorem cf63_ok : cFn Try.prog 63 = some (cf63 Try.prog) := by kernel_rfl
def cf64 (P : Program) : FF := ⟨14, (.seq (.seqr [⟨(.mv (.tmp (pth 0))), opAt P 64 0 0, (some (pth 5)), none⟩,
⟨.slow, opAt P 64 0 1, (some (pth 6)), none⟩,
⟨(.mv (.tmp (pth 6))), opAt P 64 0 2, (some (pth 4)), none⟩])
(.seqr [⟨(.mv (.tmp (pth 0))), opAt P 64 1 0, (some (pth 7)), none⟩,
⟨(.mv (.tmp (pth 4))), opAt P 64 1 1, (some (pth 8)), none⟩,
⟨(.mv (.tmp (pth 4))), opAt P 64 1 2, (some (pth 9)), none⟩,
⟨.slow, opAt P 64 1 3, (some (pth 10)), none⟩,
⟨(.call 89 [(.tmp (pth 10))]), opAt P 64 1 4, (some (pth 11)), none⟩,
⟨(.mv (.tmp (pth 1))), opAt P 64 1 5, (some (pth 12)), none⟩,
⟨(.call 88 [(.tmp (pth 7)), (.val (.int .i64 (0))), (.tmp (pth 8)), (.tmp (pth 11)), (.tmp (pth 12))]), opAt P 64 1 6, (some (pth 13)), none⟩])), []⟩
theorem cf64_ok : cFn Try.prog 64 = some (cf64 Try.prog) := by kernel_rfl
def cf65 (P : Program) : FF := ⟨10, (.seq (.seqr [⟨.slow, opAt P 65 0 0, (some (pth 2)), none⟩,
⟨.slow, opAt P 65 0 1, (some (pth 3)), none⟩,
⟨(.mv (.val (.int .i64 (0)))), opAt P 65 0 2, (some (pth 4)), none⟩])
(.seq (.seqr [⟨(.fa (.tmp (pth 2)) 0), opAt P 65 1 0, (some (pth 5)), none⟩,
⟨(.ld 3 (.tmp (pth 5))), opAt P 65 1 1, (some (pth 6)), none⟩,
⟨(.fa (.tmp (pth 3)) 0), opAt P 65 1 2, (some (pth 7)), none⟩,
⟨(.ld 3 (.tmp (pth 7))), opAt P 65 1 3, (some (pth 8)), none⟩,
⟨(.call 66 [(.tmp (pth 6)), (.tmp (pth 8))]), opAt P 65 1 4, (some (pth 9)), none⟩,
⟨(.mv (.tmp (pth 9))), opAt P 65 1 5, (some (pth 4)), none⟩])
.ret)), [.tmp (pth 4)]⟩
theorem cf65_ok : cFn Try.prog 65 = some (cf65 Try.prog) := by kernel_rfl
def cf66 (P : Program) : FF := ⟨20, (.seq (.seqr [⟨(.mv (.val (.int .i64 (0)))), opAt P 66 0 0, (some (pth 4)), none⟩])
(.seq (.seqr [⟨(.mv (.tmp (pth 0))), opAt P 66 1 0, (some (pth 7)), none⟩,
⟨(.call 90 [(.tmp (pth 7))]), opAt P 66 1 1, (some (pth 8)), none⟩,
⟨(.mv (.tmp (pth 8))), opAt P 66 1 2, (some (pth 5)), none⟩])
(.seq (.seqr [⟨(.mv (.tmp (pth 1))), opAt P 66 2 0, (some (pth 9)), none⟩,
⟨(.call 90 [(.tmp (pth 9))]), opAt P 66 2 1, (some (pth 10)), none⟩,
⟨(.mv (.tmp (pth 10))), opAt P 66 2 2, (some (pth 6)), none⟩])
(.seq (.seq (.seqr [⟨(.mv (.tmp (pth 5))), opAt P 66 3 0, (some (pth 11)), none⟩])
(.cond (.tmp (pth 11)) (.seq (.seq (.seqr [⟨(.mv (.tmp (pth 6))), opAt P 66 4 0, (some (pth 12)), none⟩])
(.cond (.tmp (pth 12)) (.seq (.seqr [⟨(.mv (.val (.int .i64 (0)))), opAt P 66 5 0, (some (pth 4)), none⟩])
.ret)
.skip))
(.seq (.seqr [⟨(.mv (.val (.int .i64 (-1)))), opAt P 66 6 0, (some (pth 4)), none⟩])
.ret))
.skip))
(.seq (.seq (.seqr [⟨(.mv (.tmp (pth 6))), opAt P 66 7 0, (some (pth 13)), none⟩])
(.cond (.tmp (pth 13)) (.seq (.seqr [⟨(.mv (.val (.int .i64 (1)))), opAt P 66 8 0, (some (pth 4)), none⟩])
.ret)
.skip))
(.seq (.seq (.seqr [⟨(.mv (.tmp (pth 0))), opAt P 66 9 0, (some (pth 14)), none⟩,
⟨(.mv (.tmp (pth 1))), opAt P 66 9 1, (some (pth 15)), none⟩,
⟨(.bin .lss (.tmp (pth 14)) (.tmp (pth 15))), opAt P 66 9 2, (some (pth 16)), none⟩])
(.cond (.tmp (pth 16)) (.seq (.seqr [⟨(.mv (.val (.int .i64 (-1)))), opAt P 66 10 0, (some (pth 4)), none⟩])
.ret)
.skip))
(.seq (.seq (.seqr [⟨(.mv (.tmp (pth 0))), opAt P 66 11 0, (some (pth 17)), none⟩,
⟨(.mv (.tmp (pth 1))), opAt P 66 11 1, (some (pth 18)), none⟩,
⟨(.bin .gtr (.tmp (pth 17)) (.tmp (pth 18))), opAt P 66 11 2, (some (pth 19)), none⟩])
(.cond (.tmp (pth 19)) (.seq (.seqr [⟨(.mv (.val (.int .i64 (1)))), opAt P 66 12 0, (some (pth 4)), none⟩])
.ret)
.skip))
(.seq (.seqr [⟨(.mv (.val (.int .i64 (0)))), opAt P 66 13 0, (some (pth 4)), none⟩])
.ret)))))))), [.tmp (pth 4)]⟩
theorem cf66_ok : cFn Try.prog 66 = some (cf66 Try.prog) := by kernel_rfl
def cf67 (P : Program) : FF := ⟨26, (.seq (.seqr [⟨(.mv (.val .nilIface)), opAt P 67 0 0, (some (pth 4)), none⟩])
(.seq (.seqr [⟨(.mv (.tmp (pth 0))), opAt P 67 1 0, (some (pth 6)), none⟩,
⟨.slow, opAt P 67 1 1, (some (pth 7)), none⟩,
⟨(.bin .sub (.tmp (pth 7)) (.val (.int .i64 (1)))), opAt P 67 1 2, (some (pth 8)), none⟩,
⟨(.mv (.tmp (pth 8))), opAt P 67 1 3, (some (pth 5)), none⟩])
(.seq (.seq (.seqr [⟨(.mv (.tmp (pth 5))), opAt P 67 2 0, (some (pth 9)), none⟩,
⟨(.mv (.tmp (pth 1))), opAt P 67 2 1, (some (pth 10)), none⟩,
⟨(.bin .neq (.tmp (pth 9)) (.tmp (pth 10))), opAt P 67 2 2, (some (pth 11)), none⟩])
(.cond (.tmp (pth 11)) (.seq (.seqr [⟨(.mv (.tmp (pth 0))), opAt P 67 3 0, (some (pth 12)), none⟩,
⟨(.mv (.tmp (pth 1))), opAt P 67 3 1, (some (pth 13)), none⟩,
⟨(.mv (.tmp (pth 5))), opAt P 67 3 2, (some (pth 14)), none⟩,
⟨.slow, opAt P 67 3 3, (some (pth 15)), none⟩])
(.seq (.seqr [⟨(.mv (.tmp (pth 0))), opAt P 67 4 0, (some (pth 16)), none⟩,
⟨(.mv (.tmp (pth 1))), opAt P 67 4 1, (some (pth 17)), none⟩,
⟨(.mv (.tmp (pth 5))), opAt P 67 4 2, (some (pth 18)), none⟩,
⟨(.call 61 [(.tmp (pth 16)), (.tmp (pth 17)), (.tmp (pth 18))]), opAt P 67 4 3, (some (pth 19)), none⟩,
⟨(.un .not (.tmp (pth 19))), opAt P 67 4 4, (some (pth 20)), none⟩])
(.cond (.tmp (pth 20)) (.seqr [⟨(.mv (.tmp (pth 0))), opAt P 67 5 0, (some (pth 21)), none⟩,
⟨(.mv (.tmp (pth 1))), opAt P 67 5 1, (some (pth 22)), none⟩,
⟨(.call 62 [(.tmp (pth 21)), (.tmp (pth 22))]), opAt P 67 5 2, (some (pth 23)), none⟩])
.skip)))
.skip))
(.seq (.seqr [⟨(.mv (.tmp (pth 0))), opAt P 67 6 0, (some (pth 24)), none⟩,
⟨.slow, opAt P 67 6 1, (some (pth 25)), none⟩,
⟨(.mv (.tmp (pth 25))), opAt P 67 6 2, (some (pth 4)), none⟩])
.ret)))), [.tmp (pth 4)]⟩
theorem cf67_ok : cFn Try.prog 67 = some (cf67 Try.prog) := by kernel_rfl
def cf68 (P : Program) : FF := ⟨18, (.seq (.seqr [⟨.slow, opAt P 68 0 0, (some (pth 2)), none⟩,
⟨.slow, opAt P 68 0 1, (some (pth 3)), none⟩,
⟨(.mv (.val (.bool false))), opAt P 68 0 2, (some (pth 4)), none⟩])
(.seq (.seq (.seqr [⟨(.ld 37 (.tmp (pth 3))), opAt P 68 1 0, (some (pth 7)), none⟩,
⟨(.mv (.val (.int .i64 (0)))), opAt P 68 1 1, (some (pth 8)), none⟩])
(.block 0 (.loop (.seq (.seqr [⟨(.bin .lss (.tmp (pth 8)) (.val (.int .i64 (4)))), opAt P 68 2 0, (some (pth 9)), none⟩])
(.seq (.cond (.tmp (pth 9)) .skip
(.exit 0))
(.seq (.block 1 (.seq (.seqr [⟨(.mv (.tmp (pth 8))), opAt P 68 3 0, (some (pth 10)), none⟩,
⟨.slow, opAt P 68 3 1, (some (pth 11)), none⟩,
⟨(.mv (.tmp (pth 10))), opAt P 68 3 2, (some (pth 5)), none⟩,
⟨(.mv (.tmp (pth 11))), opAt P 68 3 3, (some (pth 6)), none⟩])
(.seq (.seqr [⟨(.mv (.tmp (pth 5))), opAt P 68 4 0, (some (pth 12)), none⟩,
⟨.slow, opAt P 68 4 1, (some (pth 13)), none⟩,
⟨(.ld 3 (.tmp (pth 13))), opAt P 68 4 2, (some (pth 14)), none⟩,
⟨(.mv (.tmp (pth 6))), opAt P 68 4 3, (some (pth 15)), none⟩,
⟨(.bin .lss (.tmp (pth 14)) (.tmp (pth 15))), opAt P 68 4 4, (some (pth 16)), none⟩])
(.cond (.tmp (pth 16)) (.seq (.seqr [⟨(.mv (.val (.bool true))), opAt P 68 5 0, (some (pth 4)), none⟩])
.ret)
.skip))))
(.seqr [⟨(.bin .add (.tmp (pth 8)) (.val (.int .i64 (1)))), opAt P 68 6 0, (some (pth 17)), none⟩,
⟨(.mv (.tmp (pth 17))), opAt P 68 6 1, (some (pth 8)), none⟩])))))))
(.seq (.seqr [⟨(.mv (.val (.bool false))), opAt P 68 7 0, (some (pth 4)), none⟩])
.ret))), [.tmp (pth 4)]⟩
theorem cf68_ok : cFn Try.prog 68 = some (cf68 Try.prog) := by kernel_rfl
def cf87 (P : Program) : FF := ⟨9, (.seq (.seqr [⟨(.mv (.val (.bool false))), opAt P 87 0 0, (some (pth 2)), none⟩])
(.seq (.seqr [⟨(.mv (.tmp (pth 0))), opAt P 87 1 0, (some (pth 3)), none⟩,
⟨(.bin .geq (.tmp (pth 3)) (.val (.int .i64 (0)))), opAt P 87 1 1, (some (pth 4)), none⟩,
⟨(.mv (.tmp (pth 4))), opAt P 87 1 2, (some (pth 5)), none⟩,
⟨(.mv (.tmp (pth 0))), opAt P 87 1 3, (some (pth 6)), (some ((pth 5), true))⟩,
⟨(.bin .leq (.tmp (pth 6)) (.val (.int .i64 (1152921504606846976)))), opAt P 87 1 4, (some (pth 7)), (some ((pth 5), true))⟩,
⟨(.pick (.tmp (pth 5)) (.tmp (pth 7)) (.val (.bool false))), opAt P 87 1 5, (some (pth 8)), none⟩,
⟨(.mv (.tmp (pth 8))), opAt P 87 1 6, (some (pth 2)), none⟩])
.ret)), [.tmp (pth 2)]⟩
theorem cf87_ok : cFn Try.prog 87 = some (cf87 Try.prog) := by kernel_rfl
def cf88 (P : Program) : FF := ⟨148, (.seq (.seqr [⟨(.mv (.val (.bool true))), opAt P 88 0 0, (some (pth 10)), none⟩])
(.seq (.seqr [⟨(.mv (.val (.bool true))), opAt P 88 1 0, (some (pth 11)), none⟩])
(.block 0 (.loop (.block 1 (.seq (.seqr [⟨(.mv (.tmp (pth 2))), opAt P 88 2 0, (some (pth 21)), none⟩,
⟨(.mv (.tmp (pth 1))), opAt P 88 2 1, (some (pth 22)), none⟩,
⟨(.bin .sub (.tmp (pth 21)) (.tmp (pth 22))), opAt P 88 2 2, (some (pth 23)), none⟩,
⟨(.mv (.tmp (pth 23))), opAt P 88 2 3, (some (pth 12)), none⟩])
(.seq (.seq (.seqr [⟨(.mv (.tmp (pth 12))), opAt P 88 3 0, (some (pth 24)), none⟩,
⟨(.bin .leq (.tmp (pth 24)) (.val (.int .i64 (12)))), opAt P 88 3 1, (some (pth 25)), none⟩])
(.cond (.tmp (pth 25)) (.seq (.seqr [⟨(.mv (.tmp (pth 0))), opAt P 88 4 0, (some (pth 26)), none⟩,
⟨(.mv (.tmp (pth 1))), opAt P 88 4 1, (some (pth 27)), none⟩,
⟨(.mv (.tmp (pth 2))), opAt P 88 4 2, (some (pth 28)), none⟩,
⟨(.mv (.tmp (pth 4))), opAt P 88 4 3, (some (pth 29)), none⟩,
⟨(.call 106 [(.tmp (pth 26)), (.tmp (pth 27)), (.tmp (pth 28)), (.tmp (pth 29))]), opAt P 88 4 4, (some (pth 30)), none⟩])
.ret)
.skip))
(.seq (.seq (.seqr [⟨(.mv (.tmp (pth 3))), opAt P 88 5 0, (some (pth 31)), none⟩,
⟨(.bin .eql (.tmp (pth 31)) (.val (.int .i64 (0)))), opAt P 88 5 1, (some (pth 32)), none⟩])
(.cond (.tmp (pth 32)) (.seq (.seqr [⟨(.mv (.tmp (pth 0))), opAt P 88 6 0, (some (pth 33)), none⟩,
⟨(.mv (.tmp (pth 1))), opAt P 88 6 1, (some (pth 34)), none⟩,
⟨(.mv (.tmp (pth 2))), opAt P 88 6 2, (some (pth 35)), none⟩,
⟨(.mv (.tmp (pth 4))), opAt P 88 6 3, (some (pth 36)), none⟩,
⟨(.call 107 [(.tmp (pth 33)), (.tmp (pth 34)), (.tmp (pth 35)), (.tmp (pth 36))]), opAt P 88 6 4, (some (pth 37)), none⟩])
.ret)
.skip))
(.seq (.seq (.seqr [⟨(.mv (.tmp (pth 10))), opAt P 88 7 0, (some (pth 38)), none⟩,
⟨(.un .not (.tmp (pth 38))), opAt P 88 7 1, (some (pth 39)), none⟩])
(.cond (.tmp (pth 39)) (.seq (.seqr [⟨(.mv (.tmp (pth 0))), opAt P 88 8 0, (some (pth 40)), none⟩,
⟨(.mv (.tmp (pth 1))), opAt P 88 8 1, (some (pth 41)), none⟩,
⟨(.mv (.tmp (pth 2))), opAt P 88 8 2, (some (pth 42)), none⟩,
⟨(.mv (.tmp (pth 4))), opAt P 88 8 3, (some (pth 43)), none⟩,
⟨(.call 108 [(.tmp (pth 40)), (.tmp (pth 41)), (.tmp (pth 42)), (.tmp (pth 43))]), opAt P 88 8 4, (some (pth 44)), none⟩])
(.seqr [⟨(.mv (.tmp (pth 3))), opAt P 88 9 0, (some (pth 45)), none⟩,
⟨(.bin .sub (.tmp (pth 45)) (.val (.int .i64 (1)))), opAt P 88 9 1, (some (pth 46)), none⟩,
⟨(.mv (.tmp (pth 46))), opAt P 88 9 2, (some (pth 3)), none⟩]))
.skip))
(.seq (.seqr [⟨(.mv (.tmp (pth 0))), opAt P 88 10 0, (some (pth 48)), none⟩,
⟨(.mv (.tmp (pth 1))), opAt P 88 10 1, (some (pth 49)), none⟩,
⟨(.mv (.tmp (pth 2))), opAt P 88 10 2, (some (pth 50)), none⟩,
⟨(.mv (.tmp (pth 4))), opAt P 88 10 3, (some (pth 51)), none⟩,
⟨(.call 109 [(.tmp (pth 48)), (.tmp (pth 49)), (.tmp (pth 50)), (.tmp (pth 51))]), opAt P 88 10 4, (some (pth 52)), none⟩,
⟨(.mv (.tmp (pth 52))), opAt P 88 10 5, (some (pth 47)), none⟩,
⟨(.ext (.tmp (pth 47)) 0), opAt P 88 10 6, (some (pth 53)), none⟩,
⟨(.ext (.tmp (pth 47)) 1), opAt P 88 10 7, (some (pth 54)), none⟩,
⟨(.mv (.tmp (pth 53))), opAt P 88 10 8, (some (pth 13)), none⟩,
⟨(.mv (.tmp (pth 54))), opAt P 88 10 9, (some (pth 14)), none⟩])
(.seq (.seq (.seqr [⟨(.mv (.tmp (pth 14))), opAt P 88 11 0, (some (pth 55)), none⟩,
⟨(.bin .eql (.tmp (pth 55)) (.val (.int .i64 (2)))), opAt P 88 11 1, (some (pth 56)), none⟩])
(.cond (.tmp (pth 56)) (.seq (.seqr [⟨(.mv (.tmp (pth 0))), opAt P 88 12 0, (some (pth 57)), none⟩,
⟨(.mv (.tmp (pth 1))), opAt P 88 12 1, (some (pth 58)), none⟩,
⟨(.mv (.tmp (pth 2))), opAt P 88 12 2, (some (pth 59)), none⟩,
⟨(.mv (.tmp (pth 4))), opAt P 88 12 3, (some (pth 60)), none⟩,
⟨(.call 110 [(.tmp (pth 57)), (.tmp (pth 58)), (.tmp (pth 59)), (.tmp (pth 60))]), opAt P 88 12 4, (some (pth 61)), none⟩])
(.seq (.seqr [⟨(.mv (.tmp (pth 2))), opAt P 88 13 0, (some (pth 62)), none⟩,
⟨(.bin .sub (.tmp (pth 62)) (.val (.int .i64 (1)))), opAt P 88 13 1, (some (pth 63)), none⟩,
⟨(.mv (.tmp (pth 13))), opAt P 88 13 2, (some (pth 64)), none⟩,
⟨(.mv (.tmp (pth 1))), opAt P 88 13 3, (some (pth 65)), none⟩,
⟨(.bin .sub (.tmp (pth 64)) (.tmp (pth 65))), opAt P 88 13 4, (some (pth 66)), none⟩,
⟨(.bin .sub (.tmp (pth 63)) (.tmp (pth 66))), opAt P 88 13 5, (some (pth 67)), none⟩,
⟨(.mv (.tmp (pth 67))), opAt P 88 13 6, (some (pth 13)), none⟩])
(.seqr [⟨(.mv (.val (.int .i64 (1)))), opAt P 88 14 0, (some (pth 14)), none⟩])))
.skip))
(.seq (.seq (.seqr [⟨(.mv (.tmp (pth 10))), opAt P 88 15 0, (some (pth 68)), none⟩,
⟨(.mv (.tmp (pth 68))), opAt P 88 15 1, (some (pth 69)), none⟩,
⟨(.mv (.tmp (pth 11))), opAt P 88 15 2, (some (pth 70)), (some ((pth 69), true))⟩,
⟨(.pick (.tmp (pth 69)) (.tmp (pth 70)) (.val (.bool false))), opAt P 88 15 3, (some (pth 71)), none⟩,
⟨(.mv (.tmp (pth 71))), opAt P 88 15 4, (some (pth 72)), none⟩,
⟨(.mv (.tmp (pth 14))), opAt P 88 15 5, (some (pth 73)), (some ((pth 72), true))⟩,
⟨(.bin .eql (.tmp (pth 73)) (.val (.int .i64 (1)))), opAt P 88 15 6, (some (pth 74)), (some ((pth 72), true))⟩,
⟨(.pick (.tmp (pth 72)) (.tmp (pth 74)) (.val (.bool false))), opAt P 88 15 7, (some (pth 75)), none⟩])
(.cond (.tmp (pth 75)) (.seq (.seqr [⟨(.mv (.tmp (pth 0))), opAt P 88 16 0, (some (pth 76)), none⟩,
⟨(.mv (.tmp (pth 1))), opAt P 88 16 1, (some (pth 77)), none⟩,
⟨(.mv (.tmp (pth 2))), opAt P 88 16 2, (some (pth 78)), none⟩,
⟨(.mv (.tmp (pth 4))), opAt P 88 16 3, (some (pth 79)), none⟩,
⟨(.call 111 [(.tmp (pth 76)), (.tmp (pth 77)), (.tmp (pth 78)), (.tmp (pth 79))]), opAt P 88 16 4, (some (pth 80)), none⟩])
(.cond (.tmp (pth 80)) .ret
.skip))
.skip))
(.seq (.seq (.reg [⟨(.mv (.tmp (pth 1))), opAt P 88 17 0, (some (pth 81)), none⟩,
⟨(.bin .gtr (.tmp (pth 81)) (.val (.int .i64 (0)))), opAt P 88 17 1, (some (pth 82)), none⟩,
⟨(.mv (.tmp (pth 82))), opAt P 88 17 2, (some (pth 83)), none⟩,
⟨(.mv (.tmp (pth 4))), opAt P 88 17 3, (some (pth 84)), (some ((pth 83), true))⟩,
⟨(.mv (.tmp (pth 0))), opAt P 88 17 4, (some (pth 85)), (some ((pth 83), true))⟩,
⟨(.mv (.tmp (pth 1))), opAt P 88 17 5, (some (pth 86)), (some ((pth 83), true))⟩,
⟨(.bin .sub (.tmp (pth 86)) (.val (.int .i64 (1)))), opAt P 88 17 6, (some (pth 87)), (some ((pth 83), true))⟩,
⟨(.ia (.tmp (pth 85)) (.tmp (pth 87)) 6), opAt P 88 17 7, (some (pth 88)), (some ((pth 83), true))⟩,
⟨(.ld 23 (.tmp (pth 88))), opAt P 88 17 8, (some (pth 89)), (some ((pth 83), true))⟩,
⟨(.mv (.tmp (pth 0))), opAt P 88 17 9, (some (pth 90)), (some ((pth 83), true))⟩,
⟨(.mv (.tmp (pth 13))), opAt P 88 17 10, (some (pth 91)), (some ((pth 83), true))⟩,
⟨(.ia (.tmp (pth 90)) (.tmp (pth 91)) 6), opAt P 88 17 11, (some (pth 92)), (some ((pth 83), true))⟩,
⟨(.ld 23 (.tmp (pth 92))), opAt P 88 17 12, (some (pth 93)), (some ((pth 83), true))⟩,
⟨.slow, opAt P 88 17 13, (some (pth 94)), (some ((pth 83), true))⟩,
⟨(.bin .lss (.tmp (pth 94)) (.val (.int .i64 (0)))), opAt P 88 17 14, (some (pth 95)), (some ((pth 83), true))⟩,
⟨(.un .not (.tmp (pth 95))), opAt P 88 17 15, (some (pth 96)), (some ((pth 83), true))⟩,
⟨(.pick (.tmp (pth 83)) (.tmp (pth 96)) (.val (.bool false))), opAt P 88 17 16, (some (pth 97)), none⟩] [(6, 12), (8, 12)])
(.cond (.tmp (pth 97)) (.seq (.seqr [⟨(.mv (.tmp (pth 0))), opAt P 88 18 0, (some (pth 98)), none⟩,
⟨(.mv (.tmp (pth 1))), opAt P 88 18 1, (some (pth 99)), none⟩,
⟨(.mv (.tmp (pth 2))), opAt P 88 18 2, (some (pth 100)), none⟩,
⟨(.mv (.tmp (pth 13))), opAt P 88 18 3, (some (pth 101)), none⟩,
⟨(.mv (.tmp (pth 4))), opAt P 88 18 4, (some (pth 102)), none⟩,
⟨(.call 112 [(.tmp (pth 98)), (.tmp (pth 99)), (.tmp (pth 100)), (.tmp (pth 101)), (.tmp (pth 102))]), opAt P 88 18 5, (some (pth 103)), none⟩,
⟨(.mv (.tmp (pth 103))), opAt P 88 18 6, (some (pth 15)), none⟩])
(.seq (.seqr [⟨(.mv (.tmp (pth 15))), opAt P 88 19 0, (some (pth 104)), none⟩,
⟨(.mv (.tmp (pth 104))), opAt P 88 19 1, (some (pth 1)), none⟩])
(.exit 1)))
.skip))
(.seq (.seqr [⟨(.mv (.tmp (pth 0))), opAt P 88 20 0, (some (pth 106)), none⟩,
⟨(.mv (.tmp (pth 1))), opAt P 88 20 1, (some (pth 107)), none⟩,
⟨(.mv (.tmp (pth 2))), opAt P 88 20 2, (some (pth 108)), none⟩,
⟨(.mv (.tmp (pth 13))), opAt P 88 20 3, (some (pth 109)), none⟩,
⟨(.mv (.tmp (pth 4))), opAt P 88 20 4, (some (pth 110)), none⟩,
⟨(.call 113 [(.tmp (pth 106)), (.tmp (pth 107)), (.tmp (pth 108)), (.tmp (pth 109)), (.tmp (pth 110))]), opAt P 88 20 5, (some (pth 111)), none⟩,
⟨(.mv (.tmp (pth 111))), opAt P 88 20 6, (some (pth 105)), none⟩,
⟨(.ext (.tmp (pth 105)) 0), opAt P 88 20 7, (some (pth 112)), none⟩,
⟨(.ext (.tmp (pth 105)) 1), opAt P 88 20 8, (some (pth 113)), none⟩,
⟨(.mv (.tmp (pth 112))), opAt P 88 20 9, (some (pth 16)), none⟩,
⟨(.mv (.tmp (pth 113))), opAt P 88 20 10, (some (pth 17)), none⟩])
(.seq (.seqr [⟨(.mv (.tmp (pth 17))), opAt P 88 21 0, (some (pth 114)), none⟩,
⟨(.mv (.tmp (pth 114))), opAt P 88 21 1, (some (pth 11)), none⟩])
(.seq (.seqr [⟨(.mv (.tmp (pth 16))), opAt P 88 22 0, (some (pth 115)), none⟩,
⟨(.mv (.tmp (pth 1))), opAt P 88 22 1, (some (pth 116)), none⟩,
⟨(.bin .sub (.tmp (pth 115)) (.tmp (pth 116))), opAt P 88 22 2, (some (pth 117)), none⟩,
⟨(.mv (.tmp (pth 2))), opAt P 88 22 3, (some (pth 118)), none⟩,
⟨(.mv (.tmp (pth 16))), opAt P 88 22 4, (some (pth 119)), none⟩,
⟨(.bin .sub (.tmp (pth 118)) (.tmp (pth 119))), opAt P 88 22 5, (some (pth 120)), none⟩,
⟨(.mv (.tmp (pth 117))), opAt P 88 22 6, (some (pth 18)), none⟩,
⟨(.mv (.tmp (pth 120))), opAt P 88 22 7, (some (pth 19)), none⟩])
(.seq (.seqr [⟨(.mv (.tmp (pth 12))), opAt P 88 23 0, (some (pth 121)), none⟩,
⟨(.bin .quo (.tmp (pth 121)) (.val (.int .i64 (8)))), opAt P 88 23 1, (some (pth 122)), none⟩,
⟨(.mv (.tmp (pth 122))), opAt P 88 23 2, (some (pth 20)), none⟩])
(.seq (.seqr [⟨(.mv (.tmp (pth 18))), opAt P 88 24 0, (some (pth 123)), none⟩,
⟨(.mv (.tmp (pth 19))), opAt P 88 24 1, (some (pth 124)), none⟩,
⟨(.bin .lss (.tmp (pth 123)) (.tmp (pth 124))), opAt P 88 24 2, (some (pth 125)), none⟩])
(.cond (.tmp (pth 125)) (.seq (.seqr [⟨(.mv (.tmp (pth 18))), opAt P 88 25 0, (some (pth 126)), none⟩,
⟨(.mv (.tmp (pth 20))), opAt P 88 25 1, (some (pth 127)), none⟩,
⟨(.bin .geq (.tmp (pth 126)) (.tmp (pth 127))), opAt P 88 25 2, (some (pth 128)), none⟩,
⟨(.mv (.tmp (pth 128))), opAt P 88 25 3, (some (pth 10)), none⟩])
(.seq (.seqr [⟨(.mv (.tmp (pth 0))), opAt P 88 26 0, (some (pth 129)), none⟩,
⟨(.mv (.tmp (pth 1))), opAt P 88 26 1, (some (pth 130)), none⟩,
⟨(.mv (.tmp (pth 16))), opAt P 88 26 2, (some (pth 131)), none⟩,
⟨(.mv (.tmp (pth 3))), opAt P 88 26 3, (some (pth 132)), none⟩,
⟨(.mv (.tmp (pth 4))), opAt P 88 26 4, (some (pth 133)), none⟩,
⟨(.call 88 [(.tmp (pth 129)), (.tmp (pth 130)), (.tmp (pth 131)), (.tmp (pth 132)), (.tmp (pth 133))]), opAt P 88 26 5, (some (pth 134)), none⟩])
(.seqr [⟨(.mv (.tmp (pth 16))), opAt P 88 27 0, (some (pth 135)), none⟩,
⟨(.bin .add (.tmp (pth 135)) (.val (.int .i64 (1)))), opAt P 88 27 1, (some (pth 136)), none⟩,
⟨(.mv (.tmp (pth 136))), opAt P 88 27 2, (some (pth 1)), none⟩])))
(.seq (.seqr [⟨(.mv (.tmp (pth 19))), opAt P 88 28 0, (some (pth 137)), none⟩,
⟨(.mv (.tmp (pth 20))), opAt P 88 28 1, (some (pth 138)), none⟩,
⟨(.bin .geq (.tmp (pth 137)) (.tmp (pth 138))), opAt P 88 28 2, (some (pth 139)), none⟩,
⟨(.mv (.tmp (pth 139))), opAt P 88 28 3, (some (pth 10)), none⟩])
(.seq (.seqr [⟨(.mv (.tmp (pth 0))), opAt P 88 29 0, (some (pth 140)), none⟩,
⟨(.mv (.tmp (pth 16))), opAt P 88 29 1, (some (pth 141)), none⟩,
⟨(.bin .add (.tmp (pth 141)) (.val (.int .i64 (1)))), opAt P 88 29 2, (some (pth 142)), none⟩,
⟨(.mv (.tmp (pth 2))), opAt P 88 29 3, (some (pth 143)), none⟩,
⟨(.mv (.tmp (pth 3))), opAt P 88 29 4, (some (pth 144)), none⟩,
⟨(.mv (.tmp (pth 4))), opAt P 88 29 5, (some (pth 145)), none⟩,
⟨(.call 88 [(.tmp (pth 140)), (.tmp (pth 142)), (.tmp (pth 143)), (.tmp (pth 144)), (.tmp (pth 145))]), opAt P 88 29 6, (some (pth 146)), none⟩])
(.seqr [⟨(.mv (.tmp (pth 16))), opAt P 88 30 0, (some (pth 147)), none⟩,
⟨(.mv (.tmp (pth 147))), opAt P 88 30 1, (some (pth 2)), none⟩])))))))))))))))))))))), []⟩
theorem cf88_ok : cFn Try.prog 88 = some (cf88 Try.prog) := by kernel_rfl
def cf89 (P : Program) : FF := ⟨8, (.seq (.seqr [⟨(.mv (.val (.int .i64 (0)))), opAt P 89 0 0, (some (pth 2)), none⟩])
(.seq (.cond (.val (.bool false)) (.seq (.seqr [⟨(.mv (.tmp (pth 0))), opAt P 89 1 0, (some (pth 3)), none⟩,
⟨.slow, opAt P 89 1 1, (some (pth 4)), none⟩,
⟨(.call 114 [(.tmp (pth 4))]), opAt P 89 1 2, (some (pth 5)), none⟩,
⟨(.mv (.tmp (pth 5))), opAt P 89 1 3, (some (pth 2)), none⟩])
.ret)
.skip)
(.seq (.seqr [⟨(.mv (.tmp (pth 0))), opAt P 89 2 0, (some (pth 6)), none⟩,
⟨(.call 115 [(.tmp (pth 6))]), opAt P 89 2 1, (some (pth 7)), none⟩,
⟨(.mv (.tmp (pth 7))), opAt P 89 2 2, (some (pth 2)), none⟩])
.ret))), [.tmp (pth 2)]⟩
theorem cf89_ok : cFn Try.prog 89 = some (cf89 Try.prog) := by kernel_rfl
def cf90 (P : Program) : FF := ⟨6, (.seq (.seqr [⟨(.mv (.val (.bool false))), opAt P 90 0 0, (some (pth 2)), none⟩])
(.seq (.seqr [⟨(.mv (.tmp (pth 0))), opAt P 90 1 0, (some (pth 3)), none⟩,
⟨(.mv (.tmp (pth 0))), opAt P 90 1 1, (some (pth 4)), none⟩,
⟨(.bin .neq (.tmp (pth 3)) (.tmp (pth 4))), opAt P 90 1 2, (some (pth 5)), none⟩,
⟨(.mv (.tmp (pth 5))), opAt P 90 1 3, (some (pth 2)), none⟩])
.ret)), [.tmp (pth 2)]⟩
theorem cf90_ok : cFn Try.prog 90 = some (cf90 Try.prog) := by kernel_rfl
def cf106 (P : Program) : FF := ⟨53, (.seq (.seqr [⟨(.mv (.tmp (pth 1))), opAt P 106 0 0, (some (pth 10)), none⟩,
⟨(.bin .add (.tmp (pth 10)) (.val (.int .i64 (1)))), opAt P 106 0 1, (some (pth 11)), none⟩,
⟨(.mv (.tmp (pth 11))), opAt P 106 0 2, (some (pth 8)), none⟩])
(.block 0 (.loop (.seq (.seq (.seqr [⟨(.mv (.tmp (pth 8))), opAt P 106 1 0, (some (pth 12)), none⟩,
⟨(.mv (.tmp (pth 2))), opAt P 106 1 1, (some (pth 13)), none⟩,
⟨(.bin .lss (.tmp (pth 12)) (.tmp (pth 13))), opAt P 106 1 2, (some (pth 14)), none⟩])
(.cond (.tmp (pth 14)) .skip
(.exit 0)))
(.seq (.block 1 (.seq (.seqr [⟨(.mv (.tmp (pth 8))), opAt P 106 2 0, (some (pth 17)), none⟩,
⟨(.mv (.tmp (pth 17))), opAt P 106 2 1, (some (pth 9)), none⟩])
(.block 2 (.loop (.seq (.seq (.reg [⟨(.mv (.tmp (pth 9))), opAt P 106 3 0, (some (pth 18)), none⟩,
⟨(.mv (.tmp (pth 1))), opAt P 106 3 1, (some (pth 19)), none⟩,
⟨(.bin .gtr (.tmp (pth 18)) (.tmp (pth 19))), opAt P 106 3 2, (some (pth 20)), none⟩,
⟨(.mv (.tmp (pth 20))), opAt P 106 3 3, (some (pth 21)), none⟩,
⟨(.mv (.tmp (pth 3))), opAt P 106 3 4, (some (pth 22)), (some ((pth 21), true))⟩,
⟨(.mv (.tmp (pth 0))), opAt P 106 3 5, (some (pth 23)), (some ((pth 21), true))⟩,
⟨(.mv (.tmp (pth 9))), opAt P 106 3 6, (some (pth 24)), (some ((pth 21), true))⟩,
⟨(.ia (.tmp (pth 23)) (.tmp (pth 24)) 6), opAt P 106 3 7, (some (pth 25)), (some ((pth 21), true))⟩,
⟨(.ld 23 (.tmp (pth 25))), opAt P 106 3 8, (some (pth 26)), (some ((pth 21), true))⟩,
⟨(.mv (.tmp (pth 0))), opAt P 106 3 9, (some (pth 27)), (some ((pth 21), true))⟩,
⟨(.mv (.tmp (pth 9))), opAt P 106 3 10, (some (pth 28)), (some ((pth 21), true))⟩,
⟨(.bin .sub (.tmp (pth 28)) (.val (.int .i64 (1)))), opAt P 106 3 11, (some (pth 29)), (some ((pth 21), true))⟩,
⟨(.ia (.tmp (pth 27)) (.tmp (pth 29)) 6), opAt P 106 3 12, (some (pth 30)), (some ((pth 21), true))⟩,
⟨(.ld 23 (.tmp (pth 30))), opAt P 106 3 13, (some (pth 31)), (some ((pth 21), true))⟩,
⟨.slow, opAt P 106 3 14, (some (pth 32)), (some ((pth 21), true))⟩,
⟨(.bin .lss (.tmp (pth 32)) (.val (.int .i64 (0)))), opAt P 106 3 15, (some (pth 33)), (some ((pth 21), true))⟩,
⟨(.pick (.tmp (pth 21)) (.tmp (pth 33)) (.val (.bool false))), opAt P 106 3 16, (some (pth 34)), none⟩] [(8, 11), (8, 13)])
(.cond (.tmp (pth 34)) .skip
(.exit 2)))
(.seq (.block 3 (.reg [⟨(.mv (.tmp (pth 0))), opAt P 106 4 0, (some (pth 37)), none⟩,
⟨(.mv (.tmp (pth 9))), opAt P 106 4 1, (some (pth 38)), none⟩,
⟨(.mv (.tmp (pth 0))), opAt P 106 4 2, (some (pth 39)), none⟩,
⟨(.mv (.tmp (pth 9))), opAt P 106 4 3, (some (pth 40)), none⟩,
⟨(.bin .sub (.tmp (pth 40)) (.val (.int .i64 (1)))), opAt P 106 4 4, (some (pth 41)), none⟩,
⟨(.mv (.tmp (pth 0))), opAt P 106 4 5, (some (pth 42)), none⟩,
⟨(.mv (.tmp (pth 9))), opAt P 106 4 6, (some (pth 43)), none⟩,
⟨(.bin .sub (.tmp (pth 43)) (.val (.int .i64 (1)))), opAt P 106 4 7, (some (pth 44)), none⟩,
⟨(.ia (.tmp (pth 42)) (.tmp (pth 44)) 6), opAt P 106 4 8, (some (pth 45)), none⟩,
⟨(.ld 23 (.tmp (pth 45))), opAt P 106 4 9, (some (pth 46)), none⟩,
⟨(.mv (.tmp (pth 0))), opAt P 106 4 10, (some (pth 47)), none⟩,
⟨(.mv (.tmp (pth 9))), opAt P 106 4 11, (some (pth 48)), none⟩,
⟨(.ia (.tmp (pth 47)) (.tmp (pth 48)) 6), opAt P 106 4 12, (some (pth 49)), none⟩,
⟨(.ld 23 (.tmp (pth 49))), opAt P 106 4 13, (some (pth 50)), none⟩,
⟨(.ia (.tmp (pth 37)) (.tmp (pth 38)) 6), opAt P 106 4 14, (some (pth 51)), none⟩,
⟨(.st 23 (.tmp (pth 51)) (.tmp (pth 46))), opAt P 106 4 15, none, none⟩,
⟨(.ia (.tmp (pth 39)) (.tmp (pth 41)) 6), opAt P 106 4 16, (some (pth 52)), none⟩,
⟨(.st 23 (.tmp (pth 52)) (.tmp (pth 50))), opAt P 106 4 17, none, none⟩] [(4, 7), (4, 9), (4, 13), (7, 13), (9, 13), (4, 15)]))
(.seqr [⟨(.mv (.tmp (pth 9))), opAt P 106 5 0, (some (pth 35)), none⟩,
⟨(.bin .sub (.tmp (pth 35)) (.val (.int .i64 (1)))), opAt P 106 5 1, (some (pth 36)), none⟩,
⟨(.mv (.tmp (pth 36))), opAt P 106 5 2, (some (pth 9)), none⟩])))))))
(.seqr [⟨(.mv (.tmp (pth 8))), opAt P 106 6 0, (some (pth 15)), none⟩,
⟨(.bin .add (.tmp (pth 15)) (.val (.int .i64 (1)))), opAt P 106 6 1, (some (pth 16)), none⟩,
⟨(.mv (.tmp (pth 16))), opAt P 106 6 2, (some (pth 8)), none⟩])))))), []⟩
theorem cf106_ok : cFn Try.prog 106 = some (cf106 Try.prog) := by kernel_rfl
def cf107 (P : Program) : FF := ⟨60, (.seq (.seqr [⟨(.mv (.tmp (pth 1))), opAt P 107 0 0, (some (pth 13)), none⟩,
⟨(.mv (.tmp (pth 13))), opAt P 107 0 1, (some (pth 8)), none⟩])
(.seq (.seqr [⟨(.mv (.val (.int .i64 (0)))), opAt P 107 1 0, (some (pth 9)), none⟩])
(.seq (.seqr [⟨(.mv (.tmp (pth 2))), opAt P 107 2 0, (some (pth 14)), none⟩,
⟨(.mv (.tmp (pth 1))), opAt P 107 2 1, (some (pth 15)), none⟩,
⟨(.bin .sub (.tmp (pth 14)) (.tmp (pth 15))), opAt P 107 2 2, (some (pth 16)), none⟩,
⟨(.mv (.tmp (pth 16))), opAt P 107 2 3, (some (pth 10)), none⟩])
(.seq (.seq (.seqr [⟨(.mv (.tmp (pth 10))), opAt P 107 3 0, (some (pth 17)), none⟩,
⟨(.bin .sub (.tmp (pth 17)) (.val (.int .i64 (1)))), opAt P 107 3 1, (some (pth 18)), none⟩,
⟨(.bin .quo (.tmp (pth 18)) (.val (.int .i64 (2)))), opAt P 107 3 2, (some (pth 19)), none⟩,
⟨(.mv (.tmp (pth 19))), opAt P 107 3 3, (some (pth 11)), none⟩])
(.block 0 (.loop (.seq (.seq (.seqr [⟨(.mv (.tmp (pth 11))), opAt P 107 4 0, (some (pth 20)), none⟩,
⟨(.bin .geq (.tmp (pth 20)) (.val (.int .i64 (0)))), opAt P 107 4 1, (some (pth 21)), none⟩])
(.cond (.tmp (pth 21)) .skip
(.exit 0)))
(.seq (.block 1 (.seqr [⟨(.mv (.tmp (pth 0))), opAt P 107 5 0, (some (pth 24)), none⟩,
⟨(.mv (.tmp (pth 11))), opAt P 107 5 1, (some (pth 25)), none⟩,
⟨(.mv (.tmp (pth 10))), opAt P 107 5 2, (some (pth 26)), none⟩,
⟨(.mv (.tmp (pth 8))), opAt P 107 5 3, (some (pth 27)), none⟩,
⟨(.mv (.tmp (pth 3))), opAt P 107 5 4, (some (pth 28)), none⟩,
⟨(.call 128 [(.tmp (pth 24)), (.tmp (pth 25)), (.tmp (pth 26)), (.tmp (pth 27)), (.tmp (pth 28))]), opAt P 107 5 5, (some (pth 29)), none⟩]))
(.seqr [⟨(.mv (.tmp (pth 11))), opAt P 107 6 0, (some (pth 22)), none⟩,
⟨(.bin .sub (.tmp (pth 22)) (.val (.int .i64 (1)))), opAt P 107 6 1, (some (pth 23)), none⟩,
⟨(.mv (.tmp (pth 23))), opAt P 107 6 2, (some (pth 11)), none⟩]))))))
(.seq (.seqr [⟨(.mv (.tmp (pth 10))), opAt P 107 7 0, (some (pth 30)), none⟩,
⟨(.bin .sub (.tmp (pth 30)) (.val (.int .i64 (1)))), opAt P 107 7 1, (some (pth 31)), none⟩,
⟨(.mv (.tmp (pth 31))), opAt P 107 7 2, (some (pth 12)), none⟩])
(.block 2 (.loop (.seq (.seq (.seqr [⟨(.mv (.tmp (pth 12))), opAt P 107 8 0, (some (pth 32)), none⟩,
⟨(.bin .geq (.tmp (pth 32)) (.val (.int .i64 (0)))), opAt P 107 8 1, (some (pth 33)), none⟩])
(.cond (.tmp (pth 33)) .skip
(.exit 2)))
(.seq (.block 3 (.seq (.reg [⟨(.mv (.tmp (pth 0))), opAt P 107 9 0, (some (pth 36)), none⟩,
⟨(.mv (.tmp (pth 8))), opAt P 107 9 1, (some (pth 37)), none⟩,
⟨(.mv (.tmp (pth 0))), opAt P 107 9 2, (some (pth 38)), none⟩,
⟨(.mv (.tmp (pth 8))), opAt P 107 9 3, (some (pth 39)), none⟩,
⟨(.mv (.tmp (pth 12))), opAt P 107 9 4, (some (pth 40)), none⟩,
⟨(.bin .add (.tmp (pth 39)) (.tmp (pth 40))), opAt P 107 9 5, (some (pth 41)), none⟩,
⟨(.mv (.tmp (pth 0))), opAt P 107 9 6, (some (pth 42)), none⟩,
⟨(.mv (.tmp (pth 8))), opAt P 107 9 7, (some (pth 43)), none⟩,
⟨(.mv (.tmp (pth 12))), opAt P 107 9 8, (some (pth 44)), none⟩,
⟨(.bin .add (.tmp (pth 43)) (.tmp (pth 44))), opAt P 107 9 9, (some (pth 45)), none⟩,
⟨(.ia (.tmp (pth 42)) (.tmp (pth 45)) 6), opAt P 107 9 10, (some (pth 46)), none⟩,
⟨(.ld 23 (.tmp (pth 46))), opAt P 107 9 11, (some (pth 47)), none⟩,
⟨(.mv (.tmp (pth 0))), opAt P 107 9 12, (some (pth 48)), none⟩,
⟨(.mv (.tmp (pth 8))), opAt P 107 9 13, (some (pth 49)), none⟩,
⟨(.ia (.tmp (pth 48)) (.tmp (pth 49)) 6), opAt P 107 9 14, (some (pth 50)), none⟩,
⟨(.ld 23 (.tmp (pth 50))), opAt P 107 9 15, (some (pth 51)), none⟩,
⟨(.ia (.tmp (pth 36)) (.tmp (pth 37)) 6), opAt P 107 9 16, (some (pth 52)), none⟩,
⟨(.st 23 (.tmp (pth 52)) (.tmp (pth 47))), opAt P 107 9 17, none, none⟩,
⟨(.ia (.tmp (pth 38)) (.tmp (pth 41)) 6), opAt P 107 9 18, (some (pth 53)), none⟩,
⟨(.st 23 (.tmp (pth 53)) (.tmp (pth 51))), opAt P 107 9 19, none, none⟩] [(5, 9), (5, 11), (5, 15), (9, 15), (11, 15), (5, 17)])
(.seqr [⟨(.mv (.tmp (pth 0))), opAt P 107 10 0, (some (pth 54)), none⟩,
⟨(.mv (.tmp (pth 9))), opAt P 107 10 1, (some (pth 55)), none⟩,
⟨(.mv (.tmp (pth 12))), opAt P 107 10 2, (some (pth 56)), none⟩,
⟨(.mv (.tmp (pth 8))), opAt P 107 10 3, (some (pth 57)), none⟩,
⟨(.mv (.tmp (pth 3))), opAt P 107 10 4, (some (pth 58)), none⟩,
⟨(.call 128 [(.tmp (pth 54)), (.tmp (pth 55)), (.tmp (pth 56)), (.tmp (pth 57)), (.tmp (pth 58))]), opAt P 107 10 5, (some (pth 59)), none⟩])))
(.seqr [⟨(.mv (.tmp (pth 12))), opAt P 107 11 0, (some (pth 34)), none⟩,
⟨(.bin .sub (.tmp (pth 34)) (.val (.int .i64 (1)))), opAt P 107 11 1, (some (pth 35)), none⟩,
⟨(.mv (.tmp (pth 35))), opAt P 107 11 2, (some (pth 12)), none⟩])))))))))), []⟩
theorem cf107_ok : cFn Try.prog 107 = some (cf107 Try.prog) := by kernel_rfl
def cf108 (P : Program) : FF := ⟨67, (.seq (.seqr [⟨(.mv (.tmp (pth 2))), opAt P 108 0 0, (some (pth 13)), none⟩,
⟨(.mv (.tmp (pth 1))), opAt P 108 0 1, (some (pth 14)), none⟩,
⟨(.bin .sub (.tmp (pth 13)) (.tmp (pth 14))), opAt P 108 0 2, (some (pth 15)), none⟩,
⟨(.mv (.tmp (pth 15))), opAt P 108 0 3, (some (pth 8)), none⟩])
(.seq (.seqr [⟨(.mv (.tmp (pth 8))), opAt P 108 1 0, (some (pth 16)), none⟩,
⟨(.bin .geq (.tmp (pth 16)) (.val (.int .i64 (8)))), opAt P 108 1 1, (some (pth 17)), none⟩])
(.cond (.tmp (pth 17)) (.seq (.seqr [⟨(.mv (.tmp (pth 8))), opAt P 108 2 0, (some (pth 18)), none⟩,
⟨.slow, opAt P 108 2 1, (some (pth 19)), none⟩,
⟨.slow, opAt P 108 2 2, (some (pth 9)), none⟩,
⟨(.st 213 (.tmp (pth 9)) (.tmp (pth 19))), opAt P 108 2 3, none, none⟩])
(.seq (.seqr [⟨(.mv (.tmp (pth 8))), opAt P 108 3 0, (some (pth 20)), none⟩,
⟨(.call 129 [(.tmp (pth 20))]), opAt P 108 3 1, (some (pth 21)), none⟩,
⟨(.mv (.tmp (pth 21))), opAt P 108 3 2, (some (pth 10)), none⟩])
(.seq (.seqr [⟨(.mv (.tmp (pth 1))), opAt P 108 4 0, (some (pth 22)), none⟩,
⟨(.mv (.tmp (pth 8))), opAt P 108 4 1, (some (pth 23)), none⟩,
⟨(.bin .quo (.tmp (pth 23)) (.val (.int .i64 (4)))), opAt P 108 4 2, (some (pth 24)), none⟩,
⟨(.bin .mul (.tmp (pth 24)) (.val (.int .i64 (2)))), opAt P 108 4 3, (some (pth 25)), none⟩,
⟨(.bin .add (.tmp (pth 22)) (.tmp (pth 25))), opAt P 108 4 4, (some (pth 26)), none⟩,
⟨(.bin .sub (.tmp (pth 26)) (.val (.int .i64 (1)))), opAt P 108 4 5, (some (pth 27)), none⟩,
⟨(.mv (.tmp (pth 27))), opAt P 108 4 6, (some (pth 11)), none⟩])
(.block 0 (.loop (.seq (.seq (.seqr [⟨(.mv (.tmp (pth 11))), opAt P 108 5 0, (some (pth 28)), none⟩,
⟨(.mv (.tmp (pth 1))), opAt P 108 5 1, (some (pth 29)), none⟩,
⟨(.mv (.tmp (pth 8))), opAt P 108 5 2, (some (pth 30)), none⟩,
⟨(.bin .quo (.tmp (pth 30)) (.val (.int .i64 (4)))), opAt P 108 5 3, (some (pth 31)), none⟩,
⟨(.bin .mul (.tmp (pth 31)) (.val (.int .i64 (2)))), opAt P 108 5 4, (some (pth 32)), none⟩,
⟨(.bin .add (.tmp (pth 29)) (.tmp (pth 32))), opAt P 108 5 5, (some (pth 33)), none⟩,
⟨(.bin .add (.tmp (pth 33)) (.val (.int .i64 (1)))), opAt P 108 5 6, (some (pth 34)), none⟩,
⟨(.bin .leq (.tmp (pth 28)) (.tmp (pth 34))), opAt P 108 5 7, (some (pth 35)), none⟩])
(.cond (.tmp (pth 35)) .skip
(.exit 0)))
(.seq (.block 1 (.seq (.seqr [⟨(.call 130 [(.tmp (pth 9))]), opAt P 108 6 0, (some (pth 38)), none⟩,
⟨(.mv (.tmp (pth 10))), opAt P 108 6 1, (some (pth 39)), none⟩,
⟨(.bin .sub (.tmp (pth 39)) (.val (.int .u64 (1)))), opAt P 108 6 2, (some (pth 40)), none⟩,
⟨(.bin .and (.tmp (pth 38)) (.tmp (pth 40))), opAt P 108 6 3, (some (pth 41)), none⟩,
⟨.slow, opAt P 108 6 4, (some (pth 42)), none⟩,
⟨(.mv (.tmp (pth 42))), opAt P 108 6 5, (some (pth 12)), none⟩])
(.seq (.seq (.seqr [⟨(.mv (.tmp (pth 12))), opAt P 108 7 0, (some (pth 43)), none⟩,
⟨(.mv (.tmp (pth 8))), opAt P 108 7 1, (some (pth 44)), none⟩,
⟨(.bin .geq (.tmp (pth 43)) (.tmp (pth 44))), opAt P 108 7 2, (some (pth 45)), none⟩])
(.cond (.tmp (pth 45)) (.seqr [⟨(.mv (.tmp (pth 12))), opAt P 108 8 0, (some (pth 46)), none⟩,
⟨(.mv (.tmp (pth 8))), opAt P 108 8 1, (some (pth 47)), none⟩,
⟨(.bin .sub (.tmp (pth 46)) (.tmp (pth 47))), opAt P 108 8 2, (some (pth 48)), none⟩,
⟨(.mv (.tmp (pth 48))), opAt P 108 8 3, (some (pth 12)), none⟩])
.skip))
(.reg [⟨(.mv (.tmp (pth 0))), opAt P 108 9 0, (some (pth 49)), none⟩,
⟨(.mv (.tmp (pth 11))), opAt P 108 9 1, (some (pth 50)), none⟩,
⟨(.mv (.tmp (pth 0))), opAt P 108 9 2, (some (pth 51)), none⟩,
⟨(.mv (.tmp (pth 1))), opAt P 108 9 3, (some (pth 52)), none⟩,
⟨(.mv (.tmp (pth 12))), opAt P 108 9 4, (some (pth 53)), none⟩,
⟨(.bin .add (.tmp (pth 52)) (.tmp (pth 53))), opAt P 108 9 5, (some (pth 54)), none⟩,
⟨(.mv (.tmp (pth 0))), opAt P 108 9 6, (some (pth 55)), none⟩,
⟨(.mv (.tmp (pth 1))), opAt P 108 9 7, (some (pth 56)), none⟩,
⟨(.mv (.tmp (pth 12))), opAt P 108 9 8, (some (pth 57)), none⟩,
⟨(.bin .add (.tmp (pth 56)) (.tmp (pth 57))), opAt P 108 9 9, (some (pth 58)), none⟩,
⟨(.ia (.tmp (pth 55)) (.tmp (pth 58)) 6), opAt P 108 9 10, (some (pth 59)), none⟩,
⟨(.ld 23 (.tmp (pth 59))), opAt P 108 9 11, (some (pth 60)), none⟩,
⟨(.mv (.tmp (pth 0))), opAt P 108 9 12, (some (pth 61)), none⟩,
⟨(.mv (.tmp (pth 11))), opAt P 108 9 13, (some (pth 62)), none⟩,
⟨(.ia (.tmp (pth 61)) (.tmp (pth 62)) 6), opAt P 108 9 14, (some (pth 63)), none⟩,
⟨(.ld 23 (.tmp (pth 63))), opAt P 108 9 15, (some (pth 64)), none⟩,
⟨(.ia (.tmp (pth 49)) (.tmp (pth 50)) 6), opAt P 108 9 16, (some (pth 65)), none⟩,
⟨(.st 23 (.tmp (pth 65)) (.tmp (pth 60))), opAt P 108 9 17, none, none⟩,
⟨(.ia (.tmp (pth 51)) (.tmp (pth 54)) 6), opAt P 108 9 18, (some (pth 66)), none⟩,
⟨(.st 23 (.tmp (pth 66)) (.tmp (pth 64))), opAt P 108 9 19, none, none⟩] [(5, 9), (5, 11), (5, 15), (9, 15), (11, 15), (5, 17)]))))
(.seqr [⟨(.mv (.tmp (pth 11))), opAt P 108 10 0, (some (pth 36)), none⟩,
⟨(.bin .add (.tmp (pth 36)) (.val (.int .i64 (1)))), opAt P 108 10 1, (some (pth 37)), none⟩,
⟨(.mv (.tmp (pth 37))), opAt P 108 10 2, (some (pth 11)), none⟩]))))))))
.skip))), []⟩
theorem cf108_ok : cFn Try.prog 108 = some (cf108 Try.prog) := by kernel_rfl
def cf109 (P : Program) : FF := ⟨63, (.seq (.seqr [⟨(.mv (.val (.int .i64 (0)))), opAt P 109 0 0, (some (pth 8)), none⟩,
⟨(.mv (.val (.int .i64 (0)))), opAt P 109 0 1, (some (pth 9)), none⟩])
(.seq (.seqr [⟨(.mv (.tmp (pth 2))), opAt P 109 1 0, (some (pth 15)), none⟩,
⟨(.mv (.tmp (pth 1))), opAt P 109 1 1, (some (pth 16)), none⟩,
⟨(.bin .sub (.tmp (pth 15)) (.tmp (pth 16))), opAt P 109 1 2, (some (pth 17)), none⟩,
⟨(.mv (.tmp (pth 17))), opAt P 109 1 3, (some (pth 10)), none⟩])
(.seq (.seqr [⟨.slow, opAt P 109 2 0, (some (pth 11)), none⟩])
(.seq (.seqr [⟨(.mv (.tmp (pth 1))), opAt P 109 3 0, (some (pth 18)), none⟩,
⟨(.mv (.tmp (pth 10))), opAt P 109 3 1, (some (pth 19)), none⟩,
⟨(.bin .quo (.tmp (pth 19)) (.val (.int .i64 (4)))), opAt P 109 3 2, (some (pth 20)), none⟩,
⟨(.bin .mul (.tmp (pth 20)) (.val (.int .i64 (1)))), opAt P 109 3 3, (some (pth 21)), none⟩,
⟨(.bin .add (.tmp (pth 18)) (.tmp (pth 21))), opAt P 109 3 4, (some (pth 22)), none⟩,
⟨(.mv (.tmp (pth 22))), opAt P 109 3 5, (some (pth 12)), none⟩])
(.seq (.seqr [⟨(.mv (.tmp (pth 1))), opAt P 109 4 0, (some (pth 23)), none⟩,
⟨(.mv (.tmp (pth 10))), opAt P 109 4 1, (some (pth 24)), none⟩,
⟨(.bin .quo (.tmp (pth 24)) (.val (.int .i64 (4)))), opAt P 109 4 2, (some (pth 25)), none⟩,
⟨(.bin .mul (.tmp (pth 25)) (.val (.int .i64 (2)))), opAt P 109 4 3, (some (pth 26)), none⟩,
⟨(.bin .add (.tmp (pth 23)) (.tmp (pth 26))), opAt P 109 4 4, (some (pth 27)), none⟩,
⟨(.mv (.tmp (pth 27))), opAt P 109 4 5, (some (pth 13)), none⟩])
(.seq (.seqr [⟨(.mv (.tmp (pth 1))), opAt P 109 5 0, (some (pth 28)), none⟩,
⟨(.mv (.tmp (pth 10))), opAt P 109 5 1, (some (pth 29)), none⟩,
⟨(.bin .quo (.tmp (pth 29)) (.val (.int .i64 (4)))), opAt P 109 5 2, (some (pth 30)), none⟩,
⟨(.bin .mul (.tmp (pth 30)) (.val (.int .i64 (3)))), opAt P 109 5 3, (some (pth 31)), none⟩,
⟨(.bin .add (.tmp (pth 28)) (.tmp (pth 31))), opAt P 109 5 4, (some (pth 32)), none⟩,
⟨(.mv (.tmp (pth 32))), opAt P 109 5 5, (some (pth 14)), none⟩])
(.seq (.seq (.seqr [⟨(.mv (.tmp (pth 10))), opAt P 109 6 0, (some (pth 33)), none⟩,
⟨(.bin .geq (.tmp (pth 33)) (.val (.int .i64 (8)))), opAt P 109 6 1, (some (pth 34)), none⟩])
(.cond (.tmp (pth 34)) (.seq (.seq (.seqr [⟨(.mv (.tmp (pth 10))), opAt P 109 7 0, (some (pth 35)), none⟩,
⟨(.bin .geq (.tmp (pth 35)) (.val (.int .i64 (50)))), opAt P 109 7 1, (some (pth 36)), none⟩])
(.cond (.tmp (pth 36)) (.seq (.seqr [⟨(.mv (.tmp (pth 0))), opAt P 109 8 0, (some (pth 37)), none⟩,
⟨(.mv (.tmp (pth 12))), opAt P 109 8 1, (some (pth 38)), none⟩,
⟨(.mv (.tmp (pth 3))), opAt P 109 8 2, (some (pth 39)), none⟩,
⟨(.call 131 [(.tmp (pth 37)), (.tmp (pth 38)), (.tmp (pth 11)), (.tmp (pth 39))]), opAt P 109 8 3, (some (pth 40)), none⟩,
⟨(.mv (.tmp (pth 40))), opAt P 109 8 4, (some (pth 12)), none⟩])
(.seq (.seqr [⟨(.mv (.tmp (pth 0))), opAt P 109 9 0, (some (pth 41)), none⟩,
⟨(.mv (.tmp (pth 13))), opAt P 109 9 1, (some (pth 42)), none⟩,
⟨(.mv (.tmp (pth 3))), opAt P 109 9 2, (some (pth 43)), none⟩,
⟨(.call 131 [(.tmp (pth 41)), (.tmp (pth 42)), (.tmp (pth 11)), (.tmp (pth 43))]), opAt P 109 9 3, (some (pth 44)), none⟩,
⟨(.mv (.tmp (pth 44))), opAt P 109 9 4, (some (pth 13)), none⟩])
(.seqr [⟨(.mv (.tmp (pth 0))), opAt P 109 10 0, (some (pth 45)), none⟩,
⟨(.mv (.tmp (pth 14))), opAt P 109 10 1, (some (pth 46)), none⟩,
⟨(.mv (.tmp (pth 3))), opAt P 109 10 2, (some (pth 47)), none⟩,
⟨(.call 131 [(.tmp (pth 45)), (.tmp (pth 46)), (.tmp (pth 11)), (.tmp (pth 47))]), opAt P 109 10 3, (some (pth 48)), none⟩,
⟨(.mv (.tmp (pth 48))), opAt P 109 10 4, (some (pth 14)), none⟩])))
.skip))
(.seqr [⟨(.mv (.tmp (pth 0))), opAt P 109 11 0, (some (pth 49)), none⟩,
⟨(.mv (.tmp (pth 12))), opAt P 109 11 1, (some (pth 50)), none⟩,
⟨(.mv (.tmp (pth 13))), opAt P 109 11 2, (some (pth 51)), none⟩,
⟨(.mv (.tmp (pth 14))), opAt P 109 11 3, (some (pth 52)), none⟩,
⟨(.mv (.tmp (pth 3))), opAt P 109 11 4, (some (pth 53)), none⟩,
⟨(.call 132 [(.tmp (pth 49)), (.tmp (pth 50)), (.tmp (pth 51)), (.tmp (pth 52)), (.tmp (pth 11)), (.tmp (pth 53))]), opAt P 109 11 5, (some (pth 54)), none⟩,
⟨(.mv (.tmp (pth 54))), opAt P 109 11 6, (some (pth 13)), none⟩]))
.skip))
(.seq (.seqr [⟨(.ld 3 (.tmp (pth 11))), opAt P 109 12 0, (some (pth 55)), none⟩])
(.block 0 (.seq (.seqr [⟨(.bin .eql (.tmp (pth 55)) (.val (.int .i64 (0)))), opAt P 109 13 0, (some (pth 58)), none⟩,
⟨(.mv (.tmp (pth 58))), opAt P 109 13 1, (some (pth 57)), none⟩])
(.cond (.tmp (pth 57)) (.seq (.seqr [⟨(.mv (.tmp (pth 13))), opAt P 109 14 0, (some (pth 59)), none⟩,
⟨(.mv (.tmp (pth 59))), opAt P 109 14 1, (some (pth 8)), none⟩,
⟨(.mv (.val (.int .i64 (1)))), opAt P 109 14 2, (some (pth 9)), none⟩])
.ret)
(.seq (.seqr [⟨(.bin .eql (.tmp (pth 55)) (.val (.int .i64 (12)))), opAt P 109 15 0, (some (pth 61)), none⟩,
⟨(.mv (.tmp (pth 61))), opAt P 109 15 1, (some (pth 60)), none⟩])
(.cond (.tmp (pth 60)) (.seq (.seqr [⟨(.mv (.tmp (pth 13))), opAt P 109 16 0, (some (pth 62)), none⟩,
⟨(.mv (.tmp (pth 62))), opAt P 109 16 1, (some (pth 8)), none⟩,
⟨(.mv (.val (.int .i64 (2)))), opAt P 109 16 2, (some (pth 9)), none⟩])
.ret)
(.seq (.seqr [⟨(.mv (.tmp (pth 13))), opAt P 109 17 0, (some (pth 56)), none⟩,
⟨(.mv (.tmp (pth 56))), opAt P 109 17 1, (some (pth 8)), none⟩,
⟨(.mv (.val (.int .i64 (0)))), opAt P 109 17 2, (some (pth 9)), none⟩])
.ret)))))))))))))), [.tmp (pth 8), .tmp (pth 9)]⟩
theorem cf109_ok : cFn Try.prog 109 = some (cf109 Try.prog) := by kernel_rfl
def cf110 (P : Program) : FF := ⟨34, (.seq (.seqr [⟨(.mv (.tmp (pth 1))), opAt P 110 0 0, (some (pth 10)), none⟩,
⟨(.mv (.tmp (pth 10))), opAt P 110 0 1, (some (pth 8)), none⟩])
(.seq (.seqr [⟨(.mv (.tmp (pth 2))), opAt P 110 1 0, (some (pth 11)), none⟩,
⟨(.bin .sub (.tmp (pth 11)) (.val (.int .i64 (1)))), opAt P 110 1 1, (some (pth 12)), none⟩,
⟨(.mv (.tmp (pth 12))), opAt P 110 1 2, (some (pth 9)), none⟩])
(.block 0 (.loop (.seq (.seq (.seqr [⟨(.mv (.tmp (pth 8))), opAt P 110 2 0, (some (pth 13)), none⟩,
⟨(.mv (.tmp (pth 9))), opAt P 110 2 1, (some (pth 14)), none⟩,
⟨(.bin .lss (.tmp (pth 13)) (.tmp (pth 14))), opAt P 110 2 2, (some (pth 15)), none⟩])
(.cond (.tmp (pth 15)) .skip
(.exit 0)))
(.block 1 (.seq (.reg [⟨(.mv (.tmp (pth 0))), opAt P 110 3 0, (some (pth 16)), none⟩,
⟨(.mv (.tmp (pth 8))), opAt P 110 3 1, (some (pth 17)), none⟩,
⟨(.mv (.tmp (pth 0))), opAt P 110 3 2, (some (pth 18)), none⟩,
⟨(.mv (.tmp (pth 9))), opAt P 110 3 3, (some (pth 19)), none⟩,
⟨(.mv (.tmp (pth 0))), opAt P 110 3 4, (some (pth 20)), none⟩,
⟨(.mv (.tmp (pth 9))), opAt P 110 3 5, (some (pth 21)), none⟩,
⟨(.ia (.tmp (pth 20)) (.tmp (pth 21)) 6), opAt P 110 3 6, (some (pth 22)), none⟩,
⟨(.ld 23 (.tmp (pth 22))), opAt P 110 3 7, (some (pth 23)), none⟩,
⟨(.mv (.tmp (pth 0))), opAt P 110 3 8, (some (pth 24)), none⟩,
⟨(.mv (.tmp (pth 8))), opAt P 110 3 9, (some (pth 25)), none⟩,
⟨(.ia (.tmp (pth 24)) (.tmp (pth 25)) 6), opAt P 110 3 10, (some (pth 26)), none⟩,
⟨(.ld 23 (.tmp (pth 26))), opAt P 110 3 11, (some (pth 27)), none⟩,
⟨(.ia (.tmp (pth 16)) (.tmp (pth 17)) 6), opAt P 110 3 12, (some (pth 28)), none⟩,
⟨(.st 23 (.tmp (pth 28)) (.tmp (pth 23))), opAt P 110 3 13, none, none⟩,
⟨(.ia (.tmp (pth 18)) (.tmp (pth 19)) 6), opAt P 110 3 14, (some (pth 29)), none⟩,
⟨(.st 23 (.tmp (pth 29)) (.tmp (pth 27))), opAt P 110 3 15, none, none⟩] [(7, 11)])
(.seq (.seqr [⟨(.mv (.tmp (pth 8))), opAt P 110 4 0, (some (pth 30)), none⟩,
⟨(.bin .add (.tmp (pth 30)) (.val (.int .i64 (1)))), opAt P 110 4 1, (some (pth 31)), none⟩,
⟨(.mv (.tmp (pth 31))), opAt P 110 4 2, (some (pth 8)), none⟩])
(.seqr [⟨(.mv (.tmp (pth 9))), opAt P 110 5 0, (some (pth 32)), none⟩,
⟨(.bin .sub (.tmp (pth 32)) (.val (.int .i64 (1)))), opAt P 110 5 1, (some (pth 33)), none⟩,
⟨(.mv (.tmp (pth 33))), opAt P 110 5 2, (some (pth 9)), none⟩]))))))))), []⟩
theorem cf110_ok : cFn Try.prog 110 = some (cf110 Try.prog) := by kernel_rfl
def cf111 (P : Program) : FF := ⟨141, (.seq (.seqr [⟨(.mv (.val (.bool false))), opAt P 111 0 0, (some (pth 8)), none⟩])
(.seq (.seqr [⟨(.mv (.tmp (pth 1))), opAt P 111 1 0, (some (pth 13)), none⟩,
⟨(.bin .add (.tmp (pth 13)) (.val (.int .i64 (1)))), opAt P 111 1 1, (some (pth 14)), none⟩,
⟨(.mv (.tmp (pth 14))), opAt P 111 1 2, (some (pth 9)), none⟩])
(.seq (.seq (.seqr [⟨(.mv (.val (.int .i64 (0)))), opAt P 111 2 0, (some (pth 10)), none⟩])
(.block 0 (.loop (.seq (.seq (.seqr [⟨(.mv (.tmp (pth 10))), opAt P 111 3 0, (some (pth 15)), none⟩,
⟨(.bin .lss (.tmp (pth 15)) (.val (.int .i64 (5)))), opAt P 111 3 1, (some (pth 16)), none⟩])
(.cond (.tmp (pth 16)) .skip
(.exit 0)))
(.seq (.block 1 (.seq (.block 2 (.loop (.seq (.seq (.reg [⟨(.mv (.tmp (pth 9))), opAt P 111 4 0, (some (pth 19)), none⟩,
⟨(.mv (.tmp (pth 2))), opAt P 111 4 1, (some (pth 20)), none⟩,
⟨(.bin .lss (.tmp (pth 19)) (.tmp (pth 20))), opAt P 111 4 2, (some (pth 21)), none⟩,
⟨(.mv (.tmp (pth 21))), opAt P 111 4 3, (some (pth 22)), none⟩,
⟨(.mv (.tmp (pth 3))), opAt P 111 4 4, (some (pth 23)), (some ((pth 22), true))⟩,
⟨(.mv (.tmp (pth 0))), opAt P 111 4 5, (some (pth 24)), (some ((pth 22), true))⟩,
⟨(.mv (.tmp (pth 9))), opAt P 111 4 6, (some (pth 25)), (some ((pth 22), true))⟩,
⟨(.ia (.tmp (pth 24)) (.tmp (pth 25)) 6), opAt P 111 4 7, (some (pth 26)), (some ((pth 22), true))⟩,
⟨(.ld 23 (.tmp (pth 26))), opAt P 111 4 8, (some (pth 27)), (some ((pth 22), true))⟩,
⟨(.mv (.tmp (pth 0))), opAt P 111 4 9, (some (pth 28)), (some ((pth 22), true))⟩,
⟨(.mv (.tmp (pth 9))), opAt P 111 4 10, (some (pth 29)), (some ((pth 22), true))⟩,
⟨(.bin .sub (.tmp (pth 29)) (.val (.int .i64 (1)))), opAt P 111 4 11, (some (pth 30)), (some ((pth 22), true))⟩,
⟨(.ia (.tmp (pth 28)) (.tmp (pth 30)) 6), opAt P 111 4 12, (some (pth 31)), (some ((pth 22), true))⟩,
⟨(.ld 23 (.tmp (pth 31))), opAt P 111 4 13, (some (pth 32)), (some ((pth 22), true))⟩,
⟨.slow, opAt P 111 4 14, (some (pth 33)), (some ((pth 22), true))⟩,
⟨(.bin .lss (.tmp (pth 33)) (.val (.int .i64 (0)))), opAt P 111 4 15, (some (pth 34)), (some ((pth 22), true))⟩,
⟨(.un .not (.tmp (pth 34))), opAt P 111 4 16, (some (pth 35)), (some ((pth 22), true))⟩,
⟨(.pick (.tmp (pth 22)) (.tmp (pth 35)) (.val (.bool false))), opAt P 111 4 17, (some (pth 36)), none⟩] [(8, 11), (8, 13)])
(.cond (.tmp (pth 36)) .skip
(.exit 2)))
(.block 3 (.seqr [⟨(.mv (.tmp (pth 9))), opAt P 111 5 0, (some (pth 37)), none⟩,
⟨(.bin .add (.tmp (pth 37)) (.val (.int .i64 (1)))), opAt P 111 5 1, (some (pth 38)), none⟩,
⟨(.mv (.tmp (pth 38))), opAt P 111 5 2, (some (pth 9)), none⟩])))))
(.seq (.seq (.seqr [⟨(.mv (.tmp (pth 9))), opAt P 111 6 0, (some (pth 39)), none⟩,
⟨(.mv (.tmp (pth 2))), opAt P 111 6 1, (some (pth 40)), none⟩,
⟨(.bin .eql (.tmp (pth 39)) (.tmp (pth 40))), opAt P 111 6 2, (some (pth 41)), none⟩])
(.cond (.tmp (pth 41)) (.seq (.seqr [⟨(.mv (.val (.bool true))), opAt P 111 7 0, (some (pth 8)), none⟩])
.ret)
.skip))
(.seq (.seq (.seqr [⟨(.mv (.tmp (pth 2))), opAt P 111 8 0, (some (pth 42)), none⟩,
⟨(.mv (.tmp (pth 1))), opAt P 111 8 1, (some (pth 43)), none⟩,
⟨(.bin .sub (.tmp (pth 42)) (.tmp (pth 43))), opAt P 111 8 2, (some (pth 44)), none⟩,
⟨(.bin .lss (.tmp (pth 44)) (.val (.int .i64 (50)))), opAt P 111 8 3, (some (pth 45)), none⟩])
(.cond (.tmp (pth 45)) (.seq (.seqr [⟨(.mv (.val (.bool false))), opAt P 111 9 0, (some (pth 8)), none⟩])
.ret)
.skip))
(.seq (.reg [⟨(.mv (.tmp (pth 0))), opAt P 111 10 0, (some (pth 46)), none⟩,
⟨(.mv (.tmp (pth 9))), opAt P 111 10 1, (some (pth 47)), none⟩,
⟨(.mv (.tmp (pth 0))), opAt P 111 10 2, (some (pth 48)), none⟩,
⟨(.mv (.tmp (pth 9))), opAt P 111 10 3, (some (pth 49)), none⟩,
⟨(.bin .sub (.tmp (pth 49)) (.val (.int .i64 (1)))), opAt P 111 10 4, (some (pth 50)), none⟩,
⟨(.mv (.tmp (pth 0))), opAt P 111 10 5, (some (pth 51)), none⟩,
⟨(.mv (.tmp (pth 9))), opAt P 111 10 6, (some (pth 52)), none⟩,
⟨(.bin .sub (.tmp (pth 52)) (.val (.int .i64 (1)))), opAt P 111 10 7, (some (pth 53)), none⟩,
⟨(.ia (.tmp (pth 51)) (.tmp (pth 53)) 6), opAt P 111 10 8, (some (pth 54)), none⟩,
⟨(.ld 23 (.tmp (pth 54))), opAt P 111 10 9, (some (pth 55)), none⟩,
⟨(.mv (.tmp (pth 0))), opAt P 111 10 10, (some (pth 56)), none⟩,
⟨(.mv (.tmp (pth 9))), opAt P 111 10 11, (some (pth 57)), none⟩,
⟨(.ia (.tmp (pth 56)) (.tmp (pth 57)) 6), opAt P 111 10 12, (some (pth 58)), none⟩,
⟨(.ld 23 (.tmp (pth 58))), opAt P 111 10 13, (some (pth 59)), none⟩,
⟨(.ia (.tmp (pth 46)) (.tmp (pth 47)) 6), opAt P 111 10 14, (some (pth 60)), none⟩,
⟨(.st 23 (.tmp (pth 60)) (.tmp (pth 55))), opAt P 111 10 15, none, none⟩,
⟨(.ia (.tmp (pth 48)) (.tmp (pth 50)) 6), opAt P 111 10 16, (some (pth 61)), none⟩,
⟨(.st 23 (.tmp (pth 61)) (.tmp (pth 59))), opAt P 111 10 17, none, none⟩] [(4, 7), (4, 9), (4, 13), (7, 13), (9, 13), (4, 15)])
(.seq (.seq (.seqr [⟨(.mv (.tmp (pth 9))), opAt P 111 11 0, (some (pth 62)), none⟩,
⟨(.mv (.tmp (pth 1))), opAt P 111 11 1, (some (pth 63)), none⟩,
⟨(.bin .sub (.tmp (pth 62)) (.tmp (pth 63))), opAt P 111 11 2, (some (pth 64)), none⟩,
⟨(.bin .geq (.tmp (pth 64)) (.val (.int .i64 (2)))), opAt P 111 11 3, (some (pth 65)), none⟩])
(.cond (.tmp (pth 65)) (.seq (.seqr [⟨(.mv (.tmp (pth 9))), opAt P 111 12 0, (some (pth 66)), none⟩,
⟨(.bin .sub (.tmp (pth 66)) (.val (.int .i64 (1)))), opAt P 111 12 1, (some (pth 67)), none⟩,
⟨(.mv (.tmp (pth 67))), opAt P 111 12 2, (some (pth 11)), none⟩])
(.block 4 (.loop (.seq (.seq (.seqr [⟨(.mv (.tmp (pth 11))), opAt P 111 13 0, (some (pth 68)), none⟩,
⟨(.bin .geq (.tmp (pth 68)) (.val (.int .i64 (1)))), opAt P 111 13 1, (some (pth 69)), none⟩])
(.cond (.tmp (pth 69)) .skip
(.exit 4)))
(.seq (.block 5 (.seq (.seq (.reg [⟨(.mv (.tmp (pth 3))), opAt P 111 14 0, (some (pth 72)), none⟩,
⟨(.mv (.tmp (pth 0))), opAt P 111 14 1, (some (pth 73)), none⟩,
⟨(.mv (.tmp (pth 11))), opAt P 111 14 2, (some (pth 74)), none⟩,
⟨(.ia (.tmp (pth 73)) (.tmp (pth 74)) 6), opAt P 111 14 3, (some (pth 75)), none⟩,
⟨(.ld 23 (.tmp (pth 75))), opAt P 111 14 4, (some (pth 76)), none⟩,
⟨(.mv (.tmp (pth 0))), opAt P 111 14 5, (some (pth 77)), none⟩,
⟨(.mv (.tmp (pth 11))), opAt P 111 14 6, (some (pth 78)), none⟩,
⟨(.bin .sub (.tmp (pth 78)) (.val (.int .i64 (1)))), opAt P 111 14 7, (some (pth 79)), none⟩,
⟨(.ia (.tmp (pth 77)) (.tmp (pth 79)) 6), opAt P 111 14 8, (some (pth 80)), none⟩,
⟨(.ld 23 (.tmp (pth 80))), opAt P 111 14 9, (some (pth 81)), none⟩,
⟨.slow, opAt P 111 14 10, (some (pth 82)), none⟩,
⟨(.bin .lss (.tmp (pth 82)) (.val (.int .i64 (0)))), opAt P 111 14 11, (some (pth 83)), none⟩,
⟨(.un .not (.tmp (pth 83))), opAt P 111 14 12, (some (pth 84)), none⟩] [(4, 7), (4, 9)])
(.cond (.tmp (pth 84)) (.exit 4)
.skip))
(.reg [⟨(.mv (.tmp (pth 0))), opAt P 111 15 0, (some (pth 85)), none⟩,
⟨(.mv (.tmp (pth 11))), opAt P 111 15 1, (some (pth 86)), none⟩,
⟨(.mv (.tmp (pth 0))), opAt P 111 15 2, (some (pth 87)), none⟩,
⟨(.mv (.tmp (pth 11))), opAt P 111 15 3, (some (pth 88)), none⟩,
⟨(.bin .sub (.tmp (pth 88)) (.val (.int .i64 (1)))), opAt P 111 15 4, (some (pth 89)), none⟩,
⟨(.mv (.tmp (pth 0))), opAt P 111 15 5, (some (pth 90)), none⟩,
⟨(.mv (.tmp (pth 11))), opAt P 111 15 6, (some (pth 91)), none⟩,
⟨(.bin .sub (.tmp (pth 91)) (.val (.int .i64 (1)))), opAt P 111 15 7, (some (pth 92)), none⟩,
⟨(.ia (.tmp (pth 90)) (.tmp (pth 92)) 6), opAt P 111 15 8, (some (pth 93)), none⟩,
⟨(.ld 23 (.tmp (pth 93))), opAt P 111 15 9, (some (pth 94)), none⟩,
⟨(.mv (.tmp (pth 0))), opAt P 111 15 10, (some (pth 95)), none⟩,
⟨(.mv (.tmp (pth 11))), opAt P 111 15 11, (some (pth 96)), none⟩,
⟨(.ia (.tmp (pth 95)) (.tmp (pth 96)) 6), opAt P 111 15 12, (some (pth 97)), none⟩,
⟨(.ld 23 (.tmp (pth 97))), opAt P 111 15 13, (some (pth 98)), none⟩,
⟨(.ia (.tmp (pth 85)) (.tmp (pth 86)) 6), opAt P 111 15 14, (some (pth 99)), none⟩,
⟨(.st 23 (.tmp (pth 99)) (.tmp (pth 94))), opAt P 111 15 15, none, none⟩,
⟨(.ia (.tmp (pth 87)) (.tmp (pth 89)) 6), opAt P 111 15 16, (some (pth 100)), none⟩,
⟨(.st 23 (.tmp (pth 100)) (.tmp (pth 98))), opAt P 111 15 17, none, none⟩] [(4, 7), (4, 9), (4, 13), (7, 13), (9, 13), (4, 15)])))
(.seqr [⟨(.mv (.tmp (pth 11))), opAt P 111 16 0, (some (pth 70)), none⟩,
⟨(.bin .sub (.tmp (pth 70)) (.val (.int .i64 (1)))), opAt P 111 16 1, (some (pth 71)), none⟩,
⟨(.mv (.tmp (pth 71))), opAt P 111 16 2, (some (pth 11)), none⟩]))))))
.skip))
(.seq (.seqr [⟨(.mv (.tmp (pth 2))), opAt P 111 17 0, (some (pth 101)), none⟩,
⟨(.mv (.tmp (pth 9))), opAt P 111 17 1, (some (pth 102)), none⟩,
⟨(.bin .sub (.tmp (pth 101)) (.tmp (pth 102))), opAt P 111 17 2, (some (pth 103)), none⟩,
⟨(.bin .geq (.tmp (pth 103)) (.val (.int .i64 (2)))), opAt P 111 17 3, (some (pth 104)), none⟩])
(.cond (.tmp (pth 104)) (.seq (.seqr [⟨(.mv (.tmp (pth 9))), opAt P 111 18 0, (some (pth 105)), none⟩,
⟨(.bin .add (.tmp (pth 105)) (.val (.int .i64 (1)))), opAt P 111 18 1, (some (pth 106)), none⟩,
⟨(.mv (.tmp (pth 106))), opAt P 111 18 2, (some (pth 12)), none⟩])
(.block 6 (.loop (.seq (.seq (.seqr [⟨(.mv (.tmp (pth 12))), opAt P 111 19 0, (some (pth 107)), none⟩,
⟨(.mv (.tmp (pth 2))), opAt P 111 19 1, (some (pth 108)), none⟩,
⟨(.bin .lss (.tmp (pth 107)) (.tmp (pth 108))), opAt P 111 19 2, (some (pth 109)), none⟩])
(.cond (.tmp (pth 109)) .skip
(.exit 6)))
(.seq (.block 7 (.seq (.seq (.reg [⟨(.mv (.tmp (pth 3))), opAt P 111 20 0, (some (pth 112)), none⟩,
⟨(.mv (.tmp (pth 0))), opAt P 111 20 1, (some (pth 113)), none⟩,
⟨(.mv (.tmp (pth 12))), opAt P 111 20 2, (some (pth 114)), none⟩,
⟨(.ia (.tmp (pth 113)) (.tmp (pth 114)) 6), opAt P 111 20 3, (some (pth 115)), none⟩,
⟨(.ld 23 (.tmp (pth 115))), opAt P 111 20 4, (some (pth 116)), none⟩,
⟨(.mv (.tmp (pth 0))), opAt P 111 20 5, (some (pth 117)), none⟩,
⟨(.mv (.tmp (pth 12))), opAt P 111 20 6, (some (pth 118)), none⟩,
⟨(.bin .sub (.tmp (pth 118)) (.val (.int .i64 (1)))), opAt P 111 20 7, (some (pth 119)), none⟩,
⟨(.ia (.tmp (pth 117)) (.tmp (pth 119)) 6), opAt P 111 20 8, (some (pth 120)), none⟩,
⟨(.ld 23 (.tmp (pth 120))), opAt P 111 20 9, (some (pth 121)), none⟩,
⟨.slow, opAt P 111 20 10, (some (pth 122)), none⟩,
⟨(.bin .lss (.tmp (pth 122)) (.val (.int .i64 (0)))), opAt P 111 20 11, (some (pth 123)), none⟩,
⟨(.un .not (.tmp (pth 123))), opAt P 111 20 12, (some (pth 124)), none⟩] [(4, 7), (4, 9)])
(.cond (.tmp (pth 124)) (.exit 6)
.skip))
(.reg [⟨(.mv (.tmp (pth 0))), opAt P 111 21 0, (some (pth 125)), none⟩,
⟨(.mv (.tmp (pth 12))), opAt P 111 21 1, (some (pth 126)), none⟩,
⟨(.mv (.tmp (pth 0))), opAt P 111 21 2, (some (pth 127)), none⟩,
⟨(.mv (.tmp (pth 12))), opAt P 111 21 3, (some (pth 128)), none⟩,
⟨(.bin .sub (.tmp (pth 128)) (.val (.int .i64 (1)))), opAt P 111 21 4, (some (pth 129)), none⟩,
⟨(.mv (.tmp (pth 0))), opAt P 111 21 5, (some (pth 130)), none⟩,
⟨(.mv (.tmp (pth 12))), opAt P 111 21 6, (some (pth 131)), none⟩,
⟨(.bin .sub (.tmp (pth 131)) (.val (.int .i64 (1)))), opAt P 111 21 7, (some (pth 132)), none⟩,
⟨(.ia (.tmp (pth 130)) (.tmp (pth 132)) 6), opAt P 111 21 8, (some (pth 133)), none⟩,
⟨(.ld 23 (.tmp (pth 133))), opAt P 111 21 9, (some (pth 134)), none⟩,
⟨(.mv (.tmp (pth 0))), opAt P 111 21 10, (some (pth 135)), none⟩,
⟨(.mv (.tmp (pth 12))), opAt P 111 21 11, (some (pth 136)), none⟩,
⟨(.ia (.tmp (pth 135)) (.tmp (pth 136)) 6), opAt P 111 21 12, (some (pth 137)), none⟩,
⟨(.ld 23 (.tmp (pth 137))), opAt P 111 21 13, (some (pth 138)), none⟩,
⟨(.ia (.tmp (pth 125)) (.tmp (pth 126)) 6), opAt P 111 21 14, (some (pth 139)), none⟩,
⟨(.st 23 (.tmp (pth 139)) (.tmp (pth 134))), opAt P 111 21 15, none, none⟩,
⟨(.ia (.tmp (pth 127)) (.tmp (pth 129)) 6), opAt P 111 21 16, (some (pth 140)), none⟩,
⟨(.st 23 (.tmp (pth 140)) (.tmp (pth 138))), opAt P 111 21 17, none, none⟩] [(4, 7), (4, 9), (4, 13), (7, 13), (9, 13), (4, 15)])))
(.seqr [⟨(.mv (.tmp (pth 12))), opAt P 111 22 0, (some (pth 110)), none⟩,
⟨(.bin .add (.tmp (pth 110)) (.val (.int .i64 (1)))), opAt P 111 22 1, (some (pth 111)), none⟩,
⟨(.mv (.tmp (pth 111))), opAt P 111 22 2, (some (pth 12)), none⟩]))))))
.skip))))))))
(.seqr [⟨(.mv (.tmp (pth 10))), opAt P 111 23 0, (some (pth 17)), none⟩,
⟨(.bin .add (.tmp (pth 17)) (.val (.int .i64 (1)))), opAt P 111 23 1, (some (pth 18)), none⟩,
⟨(.mv (.tmp (pth 18))), opAt P 111 23 2, (some (pth 10)), none⟩]))))))
(.seq (.seqr [⟨(.mv (.val (.bool false))), opAt P 111 24 0, (some (pth 8)), none⟩])
.ret)))), [.tmp (pth 8)]⟩
theorem cf111_ok : cFn Try.prog 111 = some (cf111 Try.prog) := by kernel_rfl
def cf112 (P : Program) : FF := ⟨90, (.seq (.seqr [⟨(.mv (.val (.int .i64 (0)))), opAt P 112 0 0, (some (pth 10)), none⟩])
(.seq (.reg [⟨(.mv (.tmp (pth 0))), opAt P 112 1 0, (some (pth 13)), none⟩,
⟨(.mv (.tmp (pth 1))), opAt P 112 1 1, (some (pth 14)), none⟩,
⟨(.mv (.tmp (pth 0))), opAt P 112 1 2, (some (pth 15)), none⟩,
⟨(.mv (.tmp (pth 3))), opAt P 112 1 3, (some (pth 16)), none⟩,
⟨(.mv (.tmp (pth 0))), opAt P 112 1 4, (some (pth 17)), none⟩,
⟨(.mv (.tmp (pth 3))), opAt P 112 1 5, (some (pth 18)), none⟩,
⟨(.ia (.tmp (pth 17)) (.tmp (pth 18)) 6), opAt P 112 1 6, (some (pth 19)), none⟩,
⟨(.ld 23 (.tmp (pth 19))), opAt P 112 1 7, (some (pth 20)), none⟩,
⟨(.mv (.tmp (pth 0))), opAt P 112 1 8, (some (pth 21)), none⟩,
⟨(.mv (.tmp (pth 1))), opAt P 112 1 9, (some (pth 22)), none⟩,
⟨(.ia (.tmp (pth 21)) (.tmp (pth 22)) 6), opAt P 112 1 10, (some (pth 23)), none⟩,
⟨(.ld 23 (.tmp (pth 23))), opAt P 112 1 11, (some (pth 24)), none⟩,
⟨(.ia (.tmp (pth 13)) (.tmp (pth 14)) 6), opAt P 112 1 12, (some (pth 25)), none⟩,
⟨(.st 23 (.tmp (pth 25)) (.tmp (pth 20))), opAt P 112 1 13, none, none⟩,
⟨(.ia (.tmp (pth 15)) (.tmp (pth 16)) 6), opAt P 112 1 14, (some (pth 26)), none⟩,
⟨(.st 23 (.tmp (pth 26)) (.tmp (pth 24))), opAt P 112 1 15, none, none⟩] [(7, 11)])
(.seq (.seqr [⟨(.mv (.tmp (pth 1))), opAt P 112 2 0, (some (pth 27)), none⟩,
⟨(.bin .add (.tmp (pth 27)) (.val (.int .i64 (1)))), opAt P 112 2 1, (some (pth 28)), none⟩,
⟨(.mv (.tmp (pth 2))), opAt P 112 2 2, (some (pth 29)), none⟩,
⟨(.bin .sub (.tmp (pth 29)) (.val (.int .i64 (1)))), opAt P 112 2 3, (some (pth 30)), none⟩,
⟨(.mv (.tmp (pth 28))), opAt P 112 2 4, (some (pth 11)), none⟩,
⟨(.mv (.tmp (pth 30))), opAt P 112 2 5, (some (pth 12)), none⟩])
(.seq (.block 0 (.loop (.block 1 (.seq (.block 2 (.loop (.seq (.seq (.reg [⟨(.mv (.tmp (pth 11))), opAt P 112 3 0, (some (pth 31)), none⟩,
⟨(.mv (.tmp (pth 12))), opAt P 112 3 1, (some (pth 32)), none⟩,
⟨(.bin .leq (.tmp (pth 31)) (.tmp (pth 32))), opAt P 112 3 2, (some (pth 33)), none⟩,
⟨(.mv (.tmp (pth 33))), opAt P 112 3 3, (some (pth 34)), none⟩,
⟨(.mv (.tmp (pth 4))), opAt P 112 3 4, (some (pth 35)), (some ((pth 34), true))⟩,
⟨(.mv (.tmp (pth 0))), opAt P 112 3 5, (some (pth 36)), (some ((pth 34), true))⟩,
⟨(.mv (.tmp (pth 1))), opAt P 112 3 6, (some (pth 37)), (some ((pth 34), true))⟩,
⟨(.ia (.tmp (pth 36)) (.tmp (pth 37)) 6), opAt P 112 3 7, (some (pth 38)), (some ((pth 34), true))⟩,
⟨(.ld 23 (.tmp (pth 38))), opAt P 112 3 8, (some (pth 39)), (some ((pth 34), true))⟩,
⟨(.mv (.tmp (pth 0))), opAt P 112 3 9, (some (pth 40)), (some ((pth 34), true))⟩,
⟨(.mv (.tmp (pth 11))), opAt P 112 3 10, (some (pth 41)), (some ((pth 34), true))⟩,
⟨(.ia (.tmp (pth 40)) (.tmp (pth 41)) 6), opAt P 112 3 11, (some (pth 42)), (some ((pth 34), true))⟩,
⟨(.ld 23 (.tmp (pth 42))), opAt P 112 3 12, (some (pth 43)), (some ((pth 34), true))⟩,
⟨.slow, opAt P 112 3 13, (some (pth 44)), (some ((pth 34), true))⟩,
⟨(.bin .lss (.tmp (pth 44)) (.val (.int .i64 (0)))), opAt P 112 3 14, (some (pth 45)), (some ((pth 34), true))⟩,
⟨(.un .not (.tmp (pth 45))), opAt P 112 3 15, (some (pth 46)), (some ((pth 34), true))⟩,
⟨(.pick (.tmp (pth 34)) (.tmp (pth 46)) (.val (.bool false))), opAt P 112 3 16, (some (pth 47)), none⟩] [(8, 12)])
(.cond (.tmp (pth 47)) .skip
(.exit 2)))
(.block 3 (.seqr [⟨(.mv (.tmp (pth 11))), opAt P 112 4 0, (some (pth 48)), none⟩,
⟨(.bin .add (.tmp (pth 48)) (.val (.int .i64 (1)))), opAt P 112 4 1, (some (pth 49)), none⟩,
⟨(.mv (.tmp (pth 49))), opAt P 112 4 2, (some (pth 11)), none⟩])))))
(.seq (.block 4 (.loop (.seq (.seq (.reg [⟨(.mv (.tmp (pth 11))), opAt P 112 5 0, (some (pth 50)), none⟩,
⟨(.mv (.tmp (pth 12))), opAt P 112 5 1, (some (pth 51)), none⟩,
⟨(.bin .leq (.tmp (pth 50)) (.tmp (pth 51))), opAt P 112 5 2, (some (pth 52)), none⟩,
⟨(.mv (.tmp (pth 52))), opAt P 112 5 3, (some (pth 53)), none⟩,
⟨(.mv (.tmp (pth 4))), opAt P 112 5 4, (some (pth 54)), (some ((pth 53), true))⟩,
⟨(.mv (.tmp (pth 0))), opAt P 112 5 5, (some (pth 55)), (some ((pth 53), true))⟩,
⟨(.mv (.tmp (pth 1))), opAt P 112 5 6, (some (pth 56)), (some ((pth 53), true))⟩,
⟨(.ia (.tmp (pth 55)) (.tmp (pth 56)) 6), opAt P 112 5 7, (some (pth 57)), (some ((pth 53), true))⟩,
⟨(.ld 23 (.tmp (pth 57))), opAt P 112 5 8, (some (pth 58)), (some ((pth 53), true))⟩,
⟨(.mv (.tmp (pth 0))), opAt P 112 5 9, (some (pth 59)), (some ((pth 53), true))⟩,
⟨(.mv (.tmp (pth 12))), opAt P 112 5 10, (some (pth 60)), (some ((pth 53), true))⟩,
⟨(.ia (.tmp (pth 59)) (.tmp (pth 60)) 6), opAt P 112 5 11, (some (pth 61)), (some ((pth 53), true))⟩,
⟨(.ld 23 (.tmp (pth 61))), opAt P 112 5 12, (some (pth 62)), (some ((pth 53), true))⟩,
⟨.slow, opAt P 112 5 13, (some (pth 63)), (some ((pth 53), true))⟩,
⟨(.bin .lss (.tmp (pth 63)) (.val (.int .i64 (0)))), opAt P 112 5 14, (some (pth 64)), (some ((pth 53), true))⟩,
⟨(.pick (.tmp (pth 53)) (.tmp (pth 64)) (.val (.bool false))), opAt P 112 5 15, (some (pth 65)), none⟩] [(8, 12)])
(.cond (.tmp (pth 65)) .skip
(.exit 4)))
(.block 5 (.seqr [⟨(.mv (.tmp (pth 12))), opAt P 112 6 0, (some (pth 66)), none⟩,
⟨(.bin .sub (.tmp (pth 66)) (.val (.int .i64 (1)))), opAt P 112 6 1, (some (pth 67)), none⟩,
⟨(.mv (.tmp (pth 67))), opAt P 112 6 2, (some (pth 12)), none⟩])))))
(.seq (.seq (.seqr [⟨(.mv (.tmp (pth 11))), opAt P 112 7 0, (some (pth 68)), none⟩,
⟨(.mv (.tmp (pth 12))), opAt P 112 7 1, (some (pth 69)), none⟩,
⟨(.bin .gtr (.tmp (pth 68)) (.tmp (pth 69))), opAt P 112 7 2, (some (pth 70)), none⟩])
(.cond (.tmp (pth 70)) (.exit 0)
.skip))
(.seq (.reg [⟨(.mv (.tmp (pth 0))), opAt P 112 8 0, (some (pth 71)), none⟩,
⟨(.mv (.tmp (pth 11))), opAt P 112 8 1, (some (pth 72)), none⟩,
⟨(.mv (.tmp (pth 0))), opAt P 112 8 2, (some (pth 73)), none⟩,
⟨(.mv (.tmp (pth 12))), opAt P 112 8 3, (some (pth 74)), none⟩,
⟨(.mv (.tmp (pth 0))), opAt P 112 8 4, (some (pth 75)), none⟩,
⟨(.mv (.tmp (pth 12))), opAt P 112 8 5, (some (pth 76)), none⟩,
⟨(.ia (.tmp (pth 75)) (.tmp (pth 76)) 6), opAt P 112 8 6, (some (pth 77)), none⟩,
⟨(.ld 23 (.tmp (pth 77))), opAt P 112 8 7, (some (pth 78)), none⟩,
⟨(.mv (.tmp (pth 0))), opAt P 112 8 8, (some (pth 79)), none⟩,
⟨(.mv (.tmp (pth 11))), opAt P 112 8 9, (some (pth 80)), none⟩,
⟨(.ia (.tmp (pth 79)) (.tmp (pth 80)) 6), opAt P 112 8 10, (some (pth 81)), none⟩,
⟨(.ld 23 (.tmp (pth 81))), opAt P 112 8 11, (some (pth 82)), none⟩,
⟨(.ia (.tmp (pth 71)) (.tmp (pth 72)) 6), opAt P 112 8 12, (some (pth 83)), none⟩,
⟨(.st 23 (.tmp (pth 83)) (.tmp (pth 78))), opAt P 112 8 13, none, none⟩,
⟨(.ia (.tmp (pth 73)) (.tmp (pth 74)) 6), opAt P 112 8 14, (some (pth 84)), none⟩,
⟨(.st 23 (.tmp (pth 84)) (.tmp (pth 82))), opAt P 112 8 15, none, none⟩] [(7, 11)])
(.seq (.seqr [⟨(.mv (.tmp (pth 11))), opAt P 112 9 0, (some (pth 85)), none⟩,
⟨(.bin .add (.tmp (pth 85)) (.val (.int .i64 (1)))), opAt P 112 9 1, (some (pth 86)), none⟩,
⟨(.mv (.tmp (pth 86))), opAt P 112 9 2, (some (pth 11)), none⟩])
(.seqr [⟨(.mv (.tmp (pth 12))), opAt P 112 10 0, (some (pth 87)), none⟩,
⟨(.bin .sub (.tmp (pth 87)) (.val (.int .i64 (1)))), opAt P 112 10 1, (some (pth 88)), none⟩,
⟨(.mv (.tmp (pth 88))), opAt P 112 10 2, (some (pth 12)), none⟩])))))))))
(.seq (.seqr [⟨(.mv (.tmp (pth 11))), opAt P 112 11 0, (some (pth 89)), none⟩,
⟨(.mv (.tmp (pth 89))), opAt P 112 11 1, (some (pth 10)), none⟩])
.ret))))), [.tmp (pth 10)]⟩
theorem cf112_ok : cFn Try.prog 112 = some (cf112 Try.prog) := by kernel_rfl
def cf113 (P : Program) : FF := ⟨178, (.seq (.seqr [⟨(.mv (.val (.int .i64 (0)))), opAt P 113 0 0, (some (pth 10)), none⟩,
⟨(.mv (.val (.bool false))), opAt P 113 0 1, (some (pth 11)), none⟩])
(.seq (.reg [⟨(.mv (.tmp (pth 0))), opAt P 113 1 0, (some (pth 14)), none⟩,
⟨(.mv (.tmp (pth 1))), opAt P 113 1 1, (some (pth 15)), none⟩,
⟨(.mv (.tmp (pth 0))), opAt P 113 1 2, (some (pth 16)), none⟩,
⟨(.mv (.tmp (pth 3))), opAt P 113 1 3, (some (pth 17)), none⟩,
⟨(.mv (.tmp (pth 0))), opAt P 113 1 4, (some (pth 18)), none⟩,
⟨(.mv (.tmp (pth 3))), opAt P 113 1 5, (some (pth 19)), none⟩,
⟨(.ia (.tmp (pth 18)) (.tmp (pth 19)) 6), opAt P 113 1 6, (some (pth 20)), none⟩,
⟨(.ld 23 (.tmp (pth 20))), opAt P 113 1 7, (some (pth 21)), none⟩,
⟨(.mv (.tmp (pth 0))), opAt P 113 1 8, (some (pth 22)), none⟩,
⟨(.mv (.tmp (pth 1))), opAt P 113 1 9, (some (pth 23)), none⟩,
⟨(.ia (.tmp (pth 22)) (.tmp (pth 23)) 6), opAt P 113 1 10, (some (pth 24)), none⟩,
⟨(.ld 23 (.tmp (pth 24))), opAt P 113 1 11, (some (pth 25)), none⟩,
⟨(.ia (.tmp (pth 14)) (.tmp (pth 15)) 6), opAt P 113 1 12, (some (pth 26)), none⟩,
⟨(.st 23 (.tmp (pth 26)) (.tmp (pth 21))), opAt P 113 1 13, none, none⟩,
⟨(.ia (.tmp (pth 16)) (.tmp (pth 17)) 6), opAt P 113 1 14, (some (pth 27)), none⟩,
⟨(.st 23 (.tmp (pth 27)) (.tmp (pth 25))), opAt P 113 1 15, none, none⟩] [(7, 11)])
(.seq (.seqr [⟨(.mv (.tmp (pth 1))), opAt P 113 2 0, (some (pth 28)), none⟩,
⟨(.bin .add (.tmp (pth 28)) (.val (.int .i64 (1)))), opAt P 113 2 1, (some (pth 29)), none⟩,
⟨(.mv (.tmp (pth 2))), opAt P 113 2 2, (some (pth 30)), none⟩,
⟨(.bin .sub (.tmp (pth 30)) (.val (.int .i64 (1)))), opAt P 113 2 3, (some (pth 31)), none⟩,
⟨(.mv (.tmp (pth 29))), opAt P 113 2 4, (some (pth 12)), none⟩,
⟨(.mv (.tmp (pth 31))), opAt P 113 2 5, (some (pth 13)), none⟩])
(.seq (.block 0 (.loop (.seq (.seq (.reg [⟨(.mv (.tmp (pth 12))), opAt P 113 3 0, (some (pth 32)), none⟩,
⟨(.mv (.tmp (pth 13))), opAt P 113 3 1, (some (pth 33)), none⟩,
⟨(.bin .leq (.tmp (pth 32)) (.tmp (pth 33))), opAt P 113 3 2, (some (pth 34)), none⟩,
⟨(.mv (.tmp (pth 34))), opAt P 113 3 3, (some (pth 35)), none⟩,
⟨(.mv (.tmp (pth 4))), opAt P 113 3 4, (some (pth 36)), (some ((pth 35), true))⟩,
⟨(.mv (.tmp (pth 0))), opAt P 113 3 5, (some (pth 37)), (some ((pth 35), true))⟩,
⟨(.mv (.tmp (pth 12))), opAt P 113 3 6, (some (pth 38)), (some ((pth 35), true))⟩,
⟨(.ia (.tmp (pth 37)) (.tmp (pth 38)) 6), opAt P 113 3 7, (some (pth 39)), (some ((pth 35), true))⟩,
⟨(.ld 23 (.tmp (pth 39))), opAt P 113 3 8, (some (pth 40)), (some ((pth 35), true))⟩,
⟨(.mv (.tmp (pth 0))), opAt P 113 3 9, (some (pth 41)), (some ((pth 35), true))⟩,
⟨(.mv (.tmp (pth 1))), opAt P 113 3 10, (some (pth 42)), (some ((pth 35), true))⟩,
⟨(.ia (.tmp (pth 41)) (.tmp (pth 42)) 6), opAt P 113 3 11, (some (pth 43)), (some ((pth 35), true))⟩,
⟨(.ld 23 (.tmp (pth 43))), opAt P 113 3 12, (some (pth 44)), (some ((pth 35), true))⟩,
⟨.slow, opAt P 113 3 13, (some (pth 45)), (some ((pth 35), true))⟩,
⟨(.bin .lss (.tmp (pth 45)) (.val (.int .i64 (0)))), opAt P 113 3 14, (some (pth 46)), (some ((pth 35), true))⟩,
⟨(.pick (.tmp (pth 35)) (.tmp (pth 46)) (.val (.bool false))), opAt P 113 3 15, (some (pth 47)), none⟩] [(8, 12)])
(.cond (.tmp (pth 47)) .skip
(.exit 0)))
(.block 1 (.seqr [⟨(.mv (.tmp (pth 12))), opAt P 113 4 0, (some (pth 48)), none⟩,
⟨(.bin .add (.tmp (pth 48)) (.val (.int .i64 (1)))), opAt P 113 4 1, (some (pth 49)), none⟩,
⟨(.mv (.tmp (pth 49))), opAt P 113 4 2, (some (pth 12)), none⟩])))))
(.seq (.block 2 (.loop (.seq (.seq (.reg [⟨(.mv (.tmp (pth 12))), opAt P 113 5 0, (some (pth 50)), none⟩,
⟨(.mv (.tmp (pth 13))), opAt P 113 5 1, (some (pth 51)), none⟩,
⟨(.bin .leq (.tmp (pth 50)) (.tmp (pth 51))), opAt P 113 5 2, (some (pth 52)), none⟩,
⟨(.mv (.tmp (pth 52))), opAt P 113 5 3, (some (pth 53)), none⟩,
⟨(.mv (.tmp (pth 4))), opAt P 113 5 4, (some (pth 54)), (some ((pth 53), true))⟩,
⟨(.mv (.tmp (pth 0))), opAt P 113 5 5, (some (pth 55)), (some ((pth 53), true))⟩,
⟨(.mv (.tmp (pth 13))), opAt P 113 5 6, (some (pth 56)), (some ((pth 53), true))⟩,
⟨(.ia (.tmp (pth 55)) (.tmp (pth 56)) 6), opAt P 113 5 7, (some (pth 57)), (some ((pth 53), true))⟩,
⟨(.ld 23 (.tmp (pth 57))), opAt P 113 5 8, (some (pth 58)), (some ((pth 53), true))⟩,
⟨(.mv (.tmp (pth 0))), opAt P 113 5 9, (some (pth 59)), (some ((pth 53), true))⟩,
⟨(.mv (.tmp (pth 1))), opAt P 113 5 10, (some (pth 60)), (some ((pth 53), true))⟩,
⟨(.ia (.tmp (pth 59)) (.tmp (pth 60)) 6), opAt P 113 5 11, (some (pth 61)), (some ((pth 53), true))⟩,
⟨(.ld 23 (.tmp (pth 61))), opAt P 113 5 12, (some (pth 62)), (some ((pth 53), true))⟩,
⟨.slow, opAt P 113 5 13, (some (pth 63)), (some ((pth 53), true))⟩,
⟨(.bin .lss (.tmp (pth 63)) (.val (.int .i64 (0)))), opAt P 113 5 14, (some (pth 64)), (some ((pth 53), true))⟩,
⟨(.un .not (.tmp (pth 64))), opAt P 113 5 15, (some (pth 65)), (some ((pth 53), true))⟩,
⟨(.pick (.tmp (pth 53)) (.tmp (pth 65)) (.val (.bool false))), opAt P 113 5 16, (some (pth 66)), none⟩] [(8, 12)])
(.cond (.tmp (pth 66)) .skip
(.exit 2)))
(.block 3 (.seqr [⟨(.mv (.tmp (pth 13))), opAt P 113 6 0, (some (pth 67)), none⟩,
⟨(.bin .sub (.tmp (pth 67)) (.val (.int .i64 (1)))), opAt P 113 6 1, (some (pth 68)), none⟩,
⟨(.mv (.tmp (pth 68))), opAt P 113 6 2, (some (pth 13)), none⟩])))))
(.seq (.seq (.seqr [⟨(.mv (.tmp (pth 12))), opAt P 113 7 0, (some (pth 69)), none⟩,
⟨(.mv (.tmp (pth 13))), opAt P 113 7 1, (some (pth 70)), none⟩,
⟨(.bin .gtr (.tmp (pth 69)) (.tmp (pth 70))), opAt P 113 7 2, (some (pth 71)), none⟩])
(.cond (.tmp (pth 71)) (.seq (.reg [⟨(.mv (.tmp (pth 0))), opAt P 113 8 0, (some (pth 72)), none⟩,
⟨(.mv (.tmp (pth 13))), opAt P 113 8 1, (some (pth 73)), none⟩,
⟨(.mv (.tmp (pth 0))), opAt P 113 8 2, (some (pth 74)), none⟩,
⟨(.mv (.tmp (pth 1))), opAt P 113 8 3, (some (pth 75)), none⟩,
⟨(.mv (.tmp (pth 0))), opAt P 113 8 4, (some (pth 76)), none⟩,
⟨(.mv (.tmp (pth 1))), opAt P 113 8 5, (some (pth 77)), none⟩,
⟨(.ia (.tmp (pth 76)) (.tmp (pth 77)) 6), opAt P 113 8 6, (some (pth 78)), none⟩,
⟨(.ld 23 (.tmp (pth 78))), opAt P 113 8 7, (some (pth 79)), none⟩,
⟨(.mv (.tmp (pth 0))), opAt P 113 8 8, (some (pth 80)), none⟩,
⟨(.mv (.tmp (pth 13))), opAt P 113 8 9, (some (pth 81)), none⟩,
⟨(.ia (.tmp (pth 80)) (.tmp (pth 81)) 6), opAt P 113 8 10, (some (pth 82)), none⟩,
⟨(.ld 23 (.tmp (pth 82))), opAt P 113 8 11, (some (pth 83)), none⟩,
⟨(.ia (.tmp (pth 72)) (.tmp (pth 73)) 6), opAt P 113 8 12, (some (pth 84)), none⟩,
⟨(.st 23 (.tmp (pth 84)) (.tmp (pth 79))), opAt P 113 8 13, none, none⟩,
⟨(.ia (.tmp (pth 74)) (.tmp (pth 75)) 6), opAt P 113 8 14, (some (pth 85)), none⟩,
⟨(.st 23 (.tmp (pth 85)) (.tmp (pth 83))), opAt P 113 8 15, none, none⟩] [(7, 11)])
(.seq (.seqr [⟨(.mv (.tmp (pth 13))), opAt P 113 9 0, (some (pth 86)), none⟩,
⟨(.mv (.tmp (pth 86))), opAt P 113 9 1, (some (pth 10)), none⟩,
⟨(.mv (.val (.bool true))), opAt P 113 9 2, (some (pth 11)), none⟩])
.ret))
.skip))
(.seq (.reg [⟨(.mv (.tmp (pth 0))), opAt P 113 10 0, (some (pth 87)), none⟩,
⟨(.mv (.tmp (pth 12))), opAt P 113 10 1, (some (pth 88)), none⟩,
⟨(.mv (.tmp (pth 0))), opAt P 113 10 2, (some (pth 89)), none⟩,
⟨(.mv (.tmp (pth 13))), opAt P 113 10 3, (some (pth 90)), none⟩,
⟨(.mv (.tmp (pth 0))), opAt P 113 10 4, (some (pth 91)), none⟩,
⟨(.mv (.tmp (pth 13))), opAt P 113 10 5, (some (pth 92)), none⟩,
⟨(.ia (.tmp (pth 91)) (.tmp (pth 92)) 6), opAt P 113 10 6, (some (pth 93)), none⟩,
⟨(.ld 23 (.tmp (pth 93))), opAt P 113 10 7, (some (pth 94)), none⟩,
⟨(.mv (.tmp (pth 0))), opAt P 113 10 8, (some (pth 95)), none⟩,
⟨(.mv (.tmp (pth 12))), opAt P 113 10 9, (some (pth 96)), none⟩,
⟨(.ia (.tmp (pth 95)) (.tmp (pth 96)) 6), opAt P 113 10 10, (some (pth 97)), none⟩,
⟨(.ld 23 (.tmp (pth 97))), opAt P 113 10 11, (some (pth 98)), none⟩,
⟨(.ia (.tmp (pth 87)) (.tmp (pth 88)) 6), opAt P 113 10 12, (some (pth 99)), none⟩,
⟨(.st 23 (.tmp (pth 99)) (.tmp (pth 94))), opAt P 113 10 13, none, none⟩,
⟨(.ia (.tmp (pth 89)) (.tmp (pth 90)) 6), opAt P 113 10 14, (some (pth 100)), none⟩,
⟨(.st 23 (.tmp (pth 100)) (.tmp (pth 98))), opAt P 113 10 15, none, none⟩] [(7, 11)])
(.seq (.seqr [⟨(.mv (.tmp (pth 12))), opAt P 113 11 0, (some (pth 101)), none⟩,
⟨(.bin .add (.tmp (pth 101)) (.val (.int .i64 (1)))), opAt P 113 11 1, (some (pth 102)), none⟩,
⟨(.mv (.tmp (pth 102))), opAt P 113 11 2, (some (pth 12)), none⟩])
(.seq (.seqr [⟨(.mv (.tmp (pth 13))), opAt P 113 12 0, (some (pth 103)), none⟩,
⟨(.bin .sub (.tmp (pth 103)) (.val (.int .i64 (1)))), opAt P 113 12 1, (some (pth 104)), none⟩,
⟨(.mv (.tmp (pth 104))), opAt P 113 12 2, (some (pth 13)), none⟩])
(.seq (.block 4 (.loop (.block 5 (.seq (.block 6 (.loop (.seq (.seq (.reg [⟨(.mv (.tmp (pth 12))), opAt P 113 13 0, (some (pth 105)), none⟩,
⟨(.mv (.tmp (pth 13))), opAt P 113 13 1, (some (pth 106)), none⟩,
⟨(.bin .leq (.tmp (pth 105)) (.tmp (pth 106))), opAt P 113 13 2, (some (pth 107)), none⟩,
⟨(.mv (.tmp (pth 107))), opAt P 113 13 3, (some (pth 108)), none⟩,
⟨(.mv (.tmp (pth 4))), opAt P 113 13 4, (some (pth 109)), (some ((pth 108), true))⟩,
⟨(.mv (.tmp (pth 0))), opAt P 113 13 5, (some (pth 110)), (some ((pth 108), true))⟩,
⟨(.mv (.tmp (pth 12))), opAt P 113 13 6, (some (pth 111)), (some ((pth 108), true))⟩,
⟨(.ia (.tmp (pth 110)) (.tmp (pth 111)) 6), opAt P 113 13 7, (some (pth 112)), (some ((pth 108), true))⟩,
⟨(.ld 23 (.tmp (pth 112))), opAt P 113 13 8, (some (pth 113)), (some ((pth 108), true))⟩,
⟨(.mv (.tmp (pth 0))), opAt P 113 13 9, (some (pth 114)), (some ((pth 108), true))⟩,
⟨(.mv (.tmp (pth 1))), opAt P 113 13 10, (some (pth 115)), (some ((pth 108), true))⟩,
⟨(.ia (.tmp (pth 114)) (.tmp (pth 115)) 6), opAt P 113 13 11, (some (pth 116)), (some ((pth 108), true))⟩,
⟨(.ld 23 (.tmp (pth 116))), opAt P 113 13 12, (some (pth 117)), (some ((pth 108), true))⟩,
⟨.slow, opAt P 113 13 13, (some (pth 118)), (some ((pth 108), true))⟩,
⟨(.bin .lss (.tmp (pth 118)) (.val (.int .i64 (0)))), opAt P 113 13 14, (some (pth 119)), (some ((pth 108), true))⟩,
⟨(.pick (.tmp (pth 108)) (.tmp (pth 119)) (.val (.bool false))), opAt P 113 13 15, (some (pth 120)), none⟩] [(8, 12)])
(.cond (.tmp (pth 120)) .skip
(.exit 6)))
(.block 7 (.seqr [⟨(.mv (.tmp (pth 12))), opAt P 113 14 0, (some (pth 121)), none⟩,
⟨(.bin .add (.tmp (pth 121)) (.val (.int .i64 (1)))), opAt P 113 14 1, (some (pth 122)), none⟩,
⟨(.mv (.tmp (pth 122))), opAt P 113 14 2, (some (pth 12)), none⟩])))))
(.seq (.block 8 (.loop (.seq (.seq (.reg [⟨(.mv (.tmp (pth 12))), opAt P 113 15 0, (some (pth 123)), none⟩,
⟨(.mv (.tmp (pth 13))), opAt P 113 15 1, (some (pth 124)), none⟩,
⟨(.bin .leq (.tmp (pth 123)) (.tmp (pth 124))), opAt P 113 15 2, (some (pth 125)), none⟩,
⟨(.mv (.tmp (pth 125))), opAt P 113 15 3, (some (pth 126)), none⟩,
⟨(.mv (.tmp (pth 4))), opAt P 113 15 4, (some (pth 127)), (some ((pth 126), true))⟩,
⟨(.mv (.tmp (pth 0))), opAt P 113 15 5, (some (pth 128)), (some ((pth 126), true))⟩,
⟨(.mv (.tmp (pth 13))), opAt P 113 15 6, (some (pth 129)), (some ((pth 126), true))⟩,
⟨(.ia (.tmp (pth 128)) (.tmp (pth 129)) 6), opAt P 113 15 7, (some (pth 130)), (some ((pth 126), true))⟩,
⟨(.ld 23 (.tmp (pth 130))), opAt P 113 15 8, (some (pth 131)), (some ((pth 126), true))⟩,
⟨(.mv (.tmp (pth 0))), opAt P 113 15 9, (some (pth 132)), (some ((pth 126), true))⟩,
⟨(.mv (.tmp (pth 1))), opAt P 113 15 10, (some (pth 133)), (some ((pth 126), true))⟩,
⟨(.ia (.tmp (pth 132)) (.tmp (pth 133)) 6), opAt P 113 15 11, (some (pth 134)), (some ((pth 126), true))⟩,
⟨(.ld 23 (.tmp (pth 134))), opAt P 113 15 12, (some (pth 135)), (some ((pth 126), true))⟩,
⟨.slow, opAt P 113 15 13, (some (pth 136)), (some ((pth 126), true))⟩,
⟨(.bin .lss (.tmp (pth 136)) (.val (.int .i64 (0)))), opAt P 113 15 14, (some (pth 137)), (some ((pth 126), true))⟩,
⟨(.un .not (.tmp (pth 137))), opAt P 113 15 15, (some (pth 138)), (some ((pth 126), true))⟩,
⟨(.pick (.tmp (pth 126)) (.tmp (pth 138)) (.val (.bool false))), opAt P 113 15 16, (some (pth 139)), none⟩] [(8, 12)])
(.cond (.tmp (pth 139)) .skip
(.exit 8)))
(.block 9 (.seqr [⟨(.mv (.tmp (pth 13))), opAt P 113 16 0, (some (pth 140)), none⟩,
⟨(.bin .sub (.tmp (pth 140)) (.val (.int .i64 (1)))), opAt P 113 16 1, (some (pth 141)), none⟩,
⟨(.mv (.tmp (pth 141))), opAt P 113 16 2, (some (pth 13)), none⟩])))))
(.seq (.seq (.seqr [⟨(.mv (.tmp (pth 12))), opAt P 113 17 0, (some (pth 142)), none⟩,
⟨(.mv (.tmp (pth 13))), opAt P 113 17 1, (some (pth 143)), none⟩,
⟨(.bin .gtr (.tmp (pth 142)) (.tmp (pth 143))), opAt P 113 17 2, (some (pth 144)), none⟩])
(.cond (.tmp (pth 144)) (.exit 4)
.skip))
(.seq (.reg [⟨(.mv (.tmp (pth 0))), opAt P 113 18 0, (some (pth 145)), none⟩,
⟨(.mv (.tmp (pth 12))), opAt P 113 18 1, (some (pth 146)), none⟩,
⟨(.mv (.tmp (pth 0))), opAt P 113 18 2, (some (pth 147)), none⟩,
⟨(.mv (.tmp (pth 13))), opAt P 113 18 3, (some (pth 148)), none⟩,
⟨(.mv (.tmp (pth 0))), opAt P 113 18 4, (some (pth 149)), none⟩,
⟨(.mv (.tmp (pth 13))), opAt P 113 18 5, (some (pth 150)), none⟩,
⟨(.ia (.tmp (pth 149)) (.tmp (pth 150)) 6), opAt P 113 18 6, (some (pth 151)), none⟩,
⟨(.ld 23 (.tmp (pth 151))), opAt P 113 18 7, (some (pth 152)), none⟩,
⟨(.mv (.tmp (pth 0))), opAt P 113 18 8, (some (pth 153)), none⟩,
⟨(.mv (.tmp (pth 12))), opAt P 113 18 9, (some (pth 154)), none⟩,
⟨(.ia (.tmp (pth 153)) (.tmp (pth 154)) 6), opAt P 113 18 10, (some (pth 155)), none⟩,
⟨(.ld 23 (.tmp (pth 155))), opAt P 113 18 11, (some (pth 156)), none⟩,
⟨(.ia (.tmp (pth 145)) (.tmp (pth 146)) 6), opAt P 113 18 12, (some (pth 157)), none⟩,
⟨(.st 23 (.tmp (pth 157)) (.tmp (pth 152))), opAt P 113 18 13, none, none⟩,
⟨(.ia (.tmp (pth 147)) (.tmp (pth 148)) 6), opAt P 113 18 14, (some (pth 158)), none⟩,
⟨(.st 23 (.tmp (pth 158)) (.tmp (pth 156))), opAt P 113 18 15, none, none⟩] [(7, 11)])
(.seq (.seqr [⟨(.mv (.tmp (pth 12))), opAt P 113 19 0, (some (pth 159)), none⟩,
⟨(.bin .add (.tmp (pth 159)) (.val (.int .i64 (1)))), opAt P 113 19 1, (some (pth 160)), none⟩,
⟨(.mv (.tmp (pth 160))), opAt P 113 19 2, (some (pth 12)), none⟩])
(.seqr [⟨(.mv (.tmp (pth 13))), opAt P 113 20 0, (some (pth 161)), none⟩,
⟨(.bin .sub (.tmp (pth 161)) (.val (.int .i64 (1)))), opAt P 113 20 1, (some (pth 162)), none⟩,
⟨(.mv (.tmp (pth 162))), opAt P 113 20 2, (some (pth 13)), none⟩])))))))))
(.seq (.reg [⟨(.mv (.tmp (pth 0))), opAt P 113 21 0, (some (pth 163)), none⟩,
⟨(.mv (.tmp (pth 13))), opAt P 113 21 1, (some (pth 164)), none⟩,
⟨(.mv (.tmp (pth 0))), opAt P 113 21 2, (some (pth 165)), none⟩,
⟨(.mv (.tmp (pth 1))), opAt P 113 21 3, (some (pth 166)), none⟩,
⟨(.mv (.tmp (pth 0))), opAt P 113 21 4, (some (pth 167)), none⟩,
⟨(.mv (.tmp (pth 1))), opAt P 113 21 5, (some (pth 168)), none⟩,
⟨(.ia (.tmp (pth 167)) (.tmp (pth 168)) 6), opAt P 113 21 6, (some (pth 169)), none⟩,
⟨(.ld 23 (.tmp (pth 169))), opAt P 113 21 7, (some (pth 170)), none⟩,
⟨(.mv (.tmp (pth 0))), opAt P 113 21 8, (some (pth 171)), none⟩,
⟨(.mv (.tmp (pth 13))), opAt P 113 21 9, (some (pth 172)), none⟩,
⟨(.ia (.tmp (pth 171)) (.tmp (pth 172)) 6), opAt P 113 21 10, (some (pth 173)), none⟩,
⟨(.ld 23 (.tmp (pth 173))), opAt P 113 21 11, (some (pth 174)), none⟩,
⟨(.ia (.tmp (pth 163)) (.tmp (pth 164)) 6), opAt P 113 21 12, (some (pth 175)), none⟩,
⟨(.st 23 (.tmp (pth 175)) (.tmp (pth 170))), opAt P 113 21 13, none, none⟩,
⟨(.ia (.tmp (pth 165)) (.tmp (pth 166)) 6), opAt P 113 21 14, (some (pth 176)), none⟩,
⟨(.st 23 (.tmp (pth 176)) (.tmp (pth 174))), opAt P 113 21 15, none, none⟩] [(7, 11)])
(.seq (.seqr [⟨(.mv (.tmp (pth 13))), opAt P 113 22 0, (some (pth 177)), none⟩,
⟨(.mv (.tmp (pth 177))), opAt P 113 22 1, (some (pth 10)), none⟩,
⟨(.mv (.val (.bool false))), opAt P 113 22 2, (some (pth 11)), none⟩])
.ret)))))))))))), [.tmp (pth 10), .tmp (pth 11)]⟩
theorem cf113_ok : cFn Try.prog 113 = some (cf113 Try.prog) := by kernel_rfl
def cf114 (P : Program) : FF := ⟨19, (.seq (.seqr [⟨(.mv (.val (.int .i64 (0)))), opAt P 114 0 0, (some (pth 2)), none⟩])
(.seq (.seq (.seqr [⟨(.mv (.tmp (pth 0))), opAt P 114 1 0, (some (pth 3)), none⟩,
⟨(.bin .geq (.tmp (pth 3)) (.val (.int .u32 (65536)))), opAt P 114 1 1, (some (pth 4)), none⟩])
(.cond (.tmp (pth 4)) (.seq (.seqr [⟨(.mv (.tmp (pth 0))), opAt P 114 2 0, (some (pth 5)), none⟩,
⟨(.bin .shr (.tmp (pth 5)) (.val (.int .u64 (16)))), opAt P 114 2 1, (some (pth 6)), none⟩,
⟨(.mv (.tmp (pth 6))), opAt P 114 2 2, (some (pth 0)), none⟩])
(.seqr [⟨(.mv (.val (.int .i64 (16)))), opAt P 114 3 0, (some (pth 2)), none⟩]))
.skip))
(.seq (.seq (.seqr [⟨(.mv (.tmp (pth 0))), opAt P 114 4 0, (some (pth 7)), none⟩,
⟨(.bin .geq (.tmp (pth 7)) (.val (.int .u32 (256)))), opAt P 114 4 1, (some (pth 8)), none⟩])
(.cond (.tmp (pth 8)) (.seq (.seqr [⟨(.mv (.tmp (pth 0))), opAt P 114 5 0, (some (pth 9)), none⟩,
⟨(.bin .shr (.tmp (pth 9)) (.val (.int .u64 (8)))), opAt P 114 5 1, (some (pth 10)), none⟩,
⟨(.mv (.tmp (pth 10))), opAt P 114 5 2, (some (pth 0)), none⟩])
(.seqr [⟨(.mv (.tmp (pth 2))), opAt P 114 6 0, (some (pth 11)), none⟩,
⟨(.bin .add (.tmp (pth 11)) (.val (.int .i64 (8)))), opAt P 114 6 1, (some (pth 12)), none⟩,
⟨(.mv (.tmp (pth 12))), opAt P 114 6 2, (some (pth 2)), none⟩]))
.skip))
(.seq (.seqr [⟨(.mv (.tmp (pth 2))), opAt P 114 7 0, (some (pth 13)), none⟩,
⟨(.mv (.tmp (pth 0))), opAt P 114 7 1, (some (pth 14)), none⟩,
⟨.slow, opAt P 114 7 2, (some (pth 15)), none⟩,
⟨.slow, opAt P 114 7 3, (some (pth 16)), none⟩,
⟨.slow, opAt P 114 7 4, (some (pth 17)), none⟩,
⟨(.bin .add (.tmp (pth 13)) (.tmp (pth 17))), opAt P 114 7 5, (some (pth 18)), none⟩,
⟨(.mv (.tmp (pth 18))), opAt P 114 7 6, (some (pth 2)), none⟩])
.ret)))), [.tmp (pth 2)]⟩
theorem cf114_ok : cFn Try.prog 114 = some (cf114 Try.prog) := by kernel_rfl
def cf115 (P : Program) : FF := ⟨25, (.seq (.seqr [⟨(.mv (.val (.int .i64 (0)))), opAt P 115 0 0, (some (pth 2)), none⟩])
(.seq (.seq (.seqr [⟨(.mv (.tmp (pth 0))), opAt P 115 1 0, (some (pth 3)), none⟩,
⟨(.bin .geq (.tmp (pth 3)) (.val (.int .u64 (4294967296)))), opAt P 115 1 1, (some (pth 4)), none⟩])
(.cond (.tmp (pth 4)) (.seq (.seqr [⟨(.mv (.tmp (pth 0))), opAt P 115 2 0, (some (pth 5)), none⟩,
⟨(.bin .shr (.tmp (pth 5)) (.val (.int .u64 (32)))), opAt P 115 2 1, (some (pth 6)), none⟩,
⟨(.mv (.tmp (pth 6))), opAt P 115 2 2, (some (pth 0)), none⟩])
(.seqr [⟨(.mv (.val (.int .i64 (32)))), opAt P 115 3 0, (some (pth 2)), none⟩]))
.skip))
(.seq (.seq (.seqr [⟨(.mv (.tmp (pth 0))), opAt P 115 4 0, (some (pth 7)), none⟩,
⟨(.bin .geq (.tmp (pth 7)) (.val (.int .u64 (65536)))), opAt P 115 4 1, (some (pth 8)), none⟩])
(.cond (.tmp (pth 8)) (.seq (.seqr [⟨(.mv (.tmp (pth 0))), opAt P 115 5 0, (some (pth 9)), none⟩,
⟨(.bin .shr (.tmp (pth 9)) (.val (.int .u64 (16)))), opAt P 115 5 1, (some (pth 10)), none⟩,
⟨(.mv (.tmp (pth 10))), opAt P 115 5 2, (some (pth 0)), none⟩])
(.seqr [⟨(.mv (.tmp (pth 2))), opAt P 115 6 0, (some (pth 11)), none⟩,
⟨(.bin .add (.tmp (pth 11)) (.val (.int .i64 (16)))), opAt P 115 6 1, (some (pth 12)), none⟩,
⟨(.mv (.tmp (pth 12))), opAt P 115 6 2, (some (pth 2)), none⟩]))
.skip))
(.seq (.seq (.seqr [⟨(.mv (.tmp (pth 0))), opAt P 115 7 0, (some (pth 13)), none⟩,
⟨(.bin .geq (.tmp (pth 13)) (.val (.int .u64 (256)))), opAt P 115 7 1, (some (pth 14)), none⟩])
(.cond (.tmp (pth 14)) (.seq (.seqr [⟨(.mv (.tmp (pth 0))), opAt P 115 8 0, (some (pth 15)), none⟩,
⟨(.bin .shr (.tmp (pth 15)) (.val (.int .u64 (8)))), opAt P 115 8 1, (some (pth 16)), none⟩,
⟨(.mv (.tmp (pth 16))), opAt P 115 8 2, (some (pth 0)), none⟩])
(.seqr [⟨(.mv (.tmp (pth 2))), opAt P 115 9 0, (some (pth 17)), none⟩,
⟨(.bin .add (.tmp (pth 17)) (.val (.int .i64 (8)))), opAt P 115 9 1, (some (pth 18)), none⟩,
⟨(.mv (.tmp (pth 18))), opAt P 115 9 2, (some (pth 2)), none⟩]))
.skip))
(.seq (.seqr [⟨(.mv (.tmp (pth 2))), opAt P 115 10 0, (some (pth 19)), none⟩,
⟨(.mv (.tmp (pth 0))), opAt P 115 10 1, (some (pth 20)), none⟩,
⟨.slow, opAt P 115 10 2, (some (pth 21)), none⟩,
⟨.slow, opAt P 115 10 3, (some (pth 22)), none⟩,
⟨.slow, opAt P 115 10 4, (some (pth 23)), none⟩,
⟨(.bin .add (.tmp (pth 19)) (.tmp (pth 23))), opAt P 115 10 5, (some (pth 24)), none⟩,
⟨(.mv (.tmp (pth 24))), opAt P 115 10 6, (some (pth 2)), none⟩])
.ret))))), [.tmp (pth 2)]⟩
theorem cf115_ok : cFn Try.prog 115 = some (cf115 Try.prog) := by kernel_rfl
def cf128 (P : Program) : FF := ⟨82, (.seq (.seqr [⟨(.mv (.tmp (pth 1))), opAt P 128 0 0, (some (pth 12)), none⟩,
⟨(.mv (.tmp (pth 12))), opAt P 128 0 1, (some (pth 10)), none⟩])
(.block 0 (.loop (.block 1 (.seq (.seqr [⟨(.mv (.tmp (pth 10))), opAt P 128 1 0, (some (pth 13)), none⟩,
⟨(.bin .mul (.val (.int .i64 (2))) (.tmp (pth 13))), opAt P 128 1 1, (some (pth 14)), none⟩,
⟨(.bin .add (.tmp (pth 14)) (.val (.int .i64 (1)))), opAt P 128 1 2, (some (pth 15)), none⟩,
⟨(.mv (.tmp (pth 15))), opAt P 128 1 3, (some (pth 11)), none⟩])
(.seq (.seq (.seqr [⟨(.mv (.tmp (pth 11))), opAt P 128 2 0, (some (pth 16)), none⟩,
⟨(.mv (.tmp (pth 2))), opAt P 128 2 1, (some (pth 17)), none⟩,
⟨(.bin .geq (.tmp (pth 16)) (.tmp (pth 17))), opAt P 128 2 2, (some (pth 18)), none⟩])
(.cond (.tmp (pth 18)) (.exit 0)
.skip))
(.seq (.seq (.reg [⟨(.mv (.tmp (pth 11))), opAt P 128 3 0, (some (pth 19)), none⟩,
⟨(.bin .add (.tmp (pth 19)) (.val (.int .i64 (1)))), opAt P 128 3 1, (some (pth 20)), none⟩,
⟨(.mv (.tmp (pth 2))), opAt P 128 3 2, (some (pth 21)), none⟩,
⟨(.bin .lss (.tmp (pth 20)) (.tmp (pth 21))), opAt P 128 3 3, (some (pth 22)), none⟩,
⟨(.mv (.tmp (pth 22))), opAt P 128 3 4, (some (pth 23)), none⟩,
⟨(.mv (.tmp (pth 4))), opAt P 128 3 5, (some (pth 24)), (some ((pth 23), true))⟩,
⟨(.mv (.tmp (pth 0))), opAt P 128 3 6, (some (pth 25)), (some ((pth 23), true))⟩,
⟨(.mv (.tmp (pth 3))), opAt P 128 3 7, (some (pth 26)), (some ((pth 23), true))⟩,
⟨(.mv (.tmp (pth 11))), opAt P 128 3 8, (some (pth 27)), (some ((pth 23), true))⟩,
⟨(.bin .add (.tmp (pth 26)) (.tmp (pth 27))), opAt P 128 3 9, (some (pth 28)), (some ((pth 23), true))⟩,
⟨(.ia (.tmp (pth 25)) (.tmp (pth 28)) 6), opAt P 128 3 10, (some (pth 29)), (some ((pth 23), true))⟩,
⟨(.ld 23 (.tmp (pth 29))), opAt P 128 3 11, (some (pth 30)), (some ((pth 23), true))⟩,
⟨(.mv (.tmp (pth 0))), opAt P 128 3 12, (some (pth 31)), (some ((pth 23), true))⟩,
⟨(.mv (.tmp (pth 3))), opAt P 128 3 13, (some (pth 32)), (some ((pth 23), true))⟩,
⟨(.mv (.tmp (pth 11))), opAt P 128 3 14, (some (pth 33)), (some ((pth 23), true))⟩,
⟨(.bin .add (.tmp (pth 32)) (.tmp (pth 33))), opAt P 128 3 15, (some (pth 34)), (some ((pth 23), true))⟩,
⟨(.bin .add (.tmp (pth 34)) (.val (.int .i64 (1)))), opAt P 128 3 16, (some (pth 35)), (some ((pth 23), true))⟩,
⟨(.ia (.tmp (pth 31)) (.tmp (pth 35)) 6), opAt P 128 3 17, (some (pth 36)), (some ((pth 23), true))⟩,
⟨(.ld 23 (.tmp (pth 36))), opAt P 128 3 18, (some (pth 37)), (some ((pth 23), true))⟩,
⟨.slow, opAt P 128 3 19, (some (pth 38)), (some ((pth 23), true))⟩,
⟨(.bin .lss (.tmp (pth 38)) (.val (.int .i64 (0)))), opAt P 128 3 20, (some (pth 39)), (some ((pth 23), true))⟩,
⟨(.pick (.tmp (pth 23)) (.tmp (pth 39)) (.val (.bool false))), opAt P 128 3 21, (some (pth 40)), none⟩] [(9, 15), (11, 15), (9, 16), (11, 16), (9, 18), (11, 18)])
(.cond (.tmp (pth 40)) (.seqr [⟨(.mv (.tmp (pth 11))), opAt P 128 4 0, (some (pth 41)), none⟩,
⟨(.bin .add (.tmp (pth 41)) (.val (.int .i64 (1)))), opAt P 128 4 1, (some (pth 42)), none⟩,
⟨(.mv (.tmp (pth 42))), opAt P 128 4 2, (some (pth 11)), none⟩])
.skip))
(.seq (.seq (.reg [⟨(.mv (.tmp (pth 4))), opAt P 128 5 0, (some (pth 43)), none⟩,
⟨(.mv (.tmp (pth 0))), opAt P 128 5 1, (some (pth 44)), none⟩,
⟨(.mv (.tmp (pth 3))), opAt P 128 5 2, (some (pth 45)), none⟩,
⟨(.mv (.tmp (pth 10))), opAt P 128 5 3, (some (pth 46)), none⟩,
⟨(.bin .add (.tmp (pth 45)) (.tmp (pth 46))), opAt P 128 5 4, (some (pth 47)), none⟩,
⟨(.ia (.tmp (pth 44)) (.tmp (pth 47)) 6), opAt P 128 5 5, (some (pth 48)), none⟩,
⟨(.ld 23 (.tmp (pth 48))), opAt P 128 5 6, (some (pth 49)), none⟩,
⟨(.mv (.tmp (pth 0))), opAt P 128 5 7, (some (pth 50)), none⟩,
⟨(.mv (.tmp (pth 3))), opAt P 128 5 8, (some (pth 51)), none⟩,
⟨(.mv (.tmp (pth 11))), opAt P 128 5 9, (some (pth 52)), none⟩,
⟨(.bin .add (.tmp (pth 51)) (.tmp (pth 52))), opAt P 128 5 10, (some (pth 53)), none⟩,
⟨(.ia (.tmp (pth 50)) (.tmp (pth 53)) 6), opAt P 128 5 11, (some (pth 54)), none⟩,
⟨(.ld 23 (.tmp (pth 54))), opAt P 128 5 12, (some (pth 55)), none⟩,
⟨.slow, opAt P 128 5 13, (some (pth 56)), none⟩,
⟨(.bin .lss (.tmp (pth 56)) (.val (.int .i64 (0)))), opAt P 128 5 14, (some (pth 57)), none⟩,
⟨(.un .not (.tmp (pth 57))), opAt P 128 5 15, (some (pth 58)), none⟩] [(4, 10), (6, 10), (4, 12), (6, 12)])
(.cond (.tmp (pth 58)) .ret
.skip))
(.seq (.reg [⟨(.mv (.tmp (pth 0))), opAt P 128 6 0, (some (pth 59)), none⟩,
⟨(.mv (.tmp (pth 3))), opAt P 128 6 1, (some (pth 60)), none⟩,
⟨(.mv (.tmp (pth 10))), opAt P 128 6 2, (some (pth 61)), none⟩,
⟨(.bin .add (.tmp (pth 60)) (.tmp (pth 61))), opAt P 128 6 3, (some (pth 62)), none⟩,
⟨(.mv (.tmp (pth 0))), opAt P 128 6 4, (some (pth 63)), none⟩,
⟨(.mv (.tmp (pth 3))), opAt P 128 6 5, (some (pth 64)), none⟩,
⟨(.mv (.tmp (pth 11))), opAt P 128 6 6, (some (pth 65)), none⟩,
⟨(.bin .add (.tmp (pth 64)) (.tmp (pth 65))), opAt P 128 6 7, (some (pth 66)), none⟩,
⟨(.mv (.tmp (pth 0))), opAt P 128 6 8, (some (pth 67)), none⟩,
⟨(.mv (.tmp (pth 3))), opAt P 128 6 9, (some (pth 68)), none⟩,
⟨(.mv (.tmp (pth 11))), opAt P 128 6 10, (some (pth 69)), none⟩,
⟨(.bin .add (.tmp (pth 68)) (.tmp (pth 69))), opAt P 128 6 11, (some (pth 70)), none⟩,
⟨(.ia (.tmp (pth 67)) (.tmp (pth 70)) 6), opAt P 128 6 12, (some (pth 71)), none⟩,
⟨(.ld 23 (.tmp (pth 71))), opAt P 128 6 13, (some (pth 72)), none⟩,
⟨(.mv (.tmp (pth 0))), opAt P 128 6 14, (some (pth 73)), none⟩,
⟨(.mv (.tmp (pth 3))), opAt P 128 6 15, (some (pth 74)), none⟩,
⟨(.mv (.tmp (pth 10))), opAt P 128 6 16, (some (pth 75)), none⟩,
⟨(.bin .add (.tmp (pth 74)) (.tmp (pth 75))), opAt P 128 6 17, (some (pth 76)), none⟩,
⟨(.ia (.tmp (pth 73)) (.tmp (pth 76)) 6), opAt P 128 6 18, (some (pth 77)), none⟩,
⟨(.ld 23 (.tmp (pth 77))), opAt P 128 6 19, (some (pth 78)), none⟩,
⟨(.ia (.tmp (pth 59)) (.tmp (pth 62)) 6), opAt P 128 6 20, (some (pth 79)), none⟩,
⟨(.st 23 (.tmp (pth 79)) (.tmp (pth 72))), opAt P 128 6 21, none, none⟩,
⟨(.ia (.tmp (pth 63)) (.tmp (pth 66)) 6), opAt P 128 6 22, (some (pth 80)), none⟩,
⟨(.st 23 (.tmp (pth 80)) (.tmp (pth 78))), opAt P 128 6 23, none, none⟩] [(3, 7), (3, 11), (7, 11), (3, 13), (7, 13), (3, 17), (7, 17), (11, 17), (13, 17), (3, 19), (7, 19), (11, 19), (13, 19), (7, 21)])
(.seqr [⟨(.mv (.tmp (pth 11))), opAt P 128 7 0, (some (pth 81)), none⟩,
⟨(.mv (.tmp (pth 81))), opAt P 128 7 1, (some (pth 10)), none⟩])))))))))), []⟩
theorem cf128_ok : cFn Try.prog 128 = some (cf128 Try.prog) := by kernel_rfl
def cf129 (P : Program) : FF := ⟨7, (.seq (.seqr [⟨(.mv (.val (.int .u64 (0)))), opAt P 129 0 0, (some (pth 2)), none⟩])
(.seq (.seqr [⟨(.mv (.tmp (pth 0))), opAt P 129 1 0, (some (pth 3)), none⟩,
⟨.slow, opAt P 129 1 1, (some (pth 4)), none⟩,
⟨(.call 89 [(.tmp (pth 4))]), opAt P 129 1 2, (some (pth 5)), none⟩,
⟨(.bin .shl (.val (.int .u64 (1))) (.tmp (pth 5))), opAt P 129 1 3, (some (pth 6)), none⟩,
⟨(.mv (.tmp (pth 6))), opAt P 129 1 4, (some (pth 2)), none⟩])
.ret)), [.tmp (pth 2)]⟩
theorem cf129_ok : cFn Try.prog 129 = some (cf129 Try.prog) := by kernel_rfl
def cf130 (P : Program) : FF := ⟨33, (.seq (.seqr [⟨(.mv (.val (.int .u64 (0)))), opAt P 130 0 0, (some (pth 2)), none⟩])
(.seq (.reg [⟨(.mv (.tmp (pth 0))), opAt P 130 1 0, (some (pth 3)), none⟩,
⟨(.nc (.tmp (pth 3))), opAt P 130 1 1, (some (pth 4)), none⟩,
⟨(.ld 213 (.tmp (pth 4))), opAt P 130 1 2, (some (pth 5)), none⟩,
⟨(.mv (.tmp (pth 0))), opAt P 130 1 3, (some (pth 6)), none⟩,
⟨(.nc (.tmp (pth 6))), opAt P 130 1 4, (some (pth 7)), none⟩,
⟨(.ld 213 (.tmp (pth 7))), opAt P 130 1 5, (some (pth 8)), none⟩,
⟨(.bin .shl (.tmp (pth 8)) (.val (.int .u64 (13)))), opAt P 130 1 6, (some (pth 9)), none⟩,
⟨(.bin .xor (.tmp (pth 5)) (.tmp (pth 9))), opAt P 130 1 7, (some (pth 10)), none⟩,
⟨(.nc (.tmp (pth 3))), opAt P 130 1 8, (some (pth 11)), none⟩,
⟨(.st 213 (.tmp (pth 11)) (.tmp (pth 10))), opAt P 130 1 9, none, none⟩] [(2, 5), (2, 6)])
(.seq (.reg [⟨(.mv (.tmp (pth 0))), opAt P 130 2 0, (some (pth 12)), none⟩,
⟨(.nc (.tmp (pth 12))), opAt P 130 2 1, (some (pth 13)), none⟩,
⟨(.ld 213 (.tmp (pth 13))), opAt P 130 2 2, (some (pth 14)), none⟩,
⟨(.mv (.tmp (pth 0))), opAt P 130 2 3, (some (pth 15)), none⟩,
⟨(.nc (.tmp (pth 15))), opAt P 130 2 4, (some (pth 16)), none⟩,
⟨(.ld 213 (.tmp (pth 16))), opAt P 130 2 5, (some (pth 17)), none⟩,
⟨(.bin .shr (.tmp (pth 17)) (.val (.int .u64 (7)))), opAt P 130 2 6, (some (pth 18)), none⟩,
⟨(.bin .xor (.tmp (pth 14)) (.tmp (pth 18))), opAt P 130 2 7, (some (pth 19)), none⟩,
⟨(.nc (.tmp (pth 12))), opAt P 130 2 8, (some (pth 20)), none⟩,
⟨(.st 213 (.tmp (pth 20)) (.tmp (pth 19))), opAt P 130 2 9, none, none⟩] [(2, 5), (2, 6)])
(.seq (.reg [⟨(.mv (.tmp (pth 0))), opAt P 130 3 0, (some (pth 21)), none⟩,
⟨(.nc (.tmp (pth 21))), opAt P 130 3 1, (some (pth 22)), none⟩,
⟨(.ld 213 (.tmp (pth 22))), opAt P 130 3 2, (some (pth 23)), none⟩,
⟨(.mv (.tmp (pth 0))), opAt P 130 3 3, (some (pth 24)), none⟩,
⟨(.nc (.tmp (pth 24))), opAt P 130 3 4, (some (pth 25)), none⟩,
⟨(.ld 213 (.tmp (pth 25))), opAt P 130 3 5, (some (pth 26)), none⟩,
⟨(.bin .shl (.tmp (pth 26)) (.val (.int .u64 (17)))), opAt P 130 3 6, (some (pth 27)), none⟩,
⟨(.bin .xor (.tmp (pth 23)) (.tmp (pth 27))), opAt P 130 3 7, (some (pth 28)), none⟩,
⟨(.nc (.tmp (pth 21))), opAt P 130 3 8, (some (pth 29)), none⟩,
⟨(.st 213 (.tmp (pth 29)) (.tmp (pth 28))), opAt P 130 3 9, none, none⟩] [(2, 5), (2, 6)])
(.seq (.seqr [⟨(.mv (.tmp (pth 0))), opAt P 130 4 0, (some (pth 30)), none⟩,
⟨(.nc (.tmp (pth 30))), opAt P 130 4 1, (some (pth 31)), none⟩,
⟨(.ld 213 (.tmp (pth 31))), opAt P 130 4 2, (some (pth 32)), none⟩,
⟨(.mv (.tmp (pth 32))), opAt P 130 4 3, (some (pth 2)), none⟩])
.ret))))), [.tmp (pth 2)]⟩
theorem cf130_ok : cFn Try.prog 130 = some (cf130 Try.prog) := by kernel_rfl
def cf131 (P : Program) : FF := ⟨18, (.seq (.seqr [⟨(.mv (.val (.int .i64 (0)))), opAt P 131 0 0, (some (pth 8)), none⟩])
(.seq (.seqr [⟨(.mv (.tmp (pth 0))), opAt P 131 1 0, (some (pth 9)), none⟩,
⟨(.mv (.tmp (pth 1))), opAt P 131 1 1, (some (pth 10)), none⟩,
⟨(.bin .sub (.tmp (pth 10)) (.val (.int .i64 (1)))), opAt P 131 1 2, (some (pth 11)), none⟩,
⟨(.mv (.tmp (pth 1))), opAt P 131 1 3, (some (pth 12)), none⟩,
⟨(.mv (.tmp (pth 1))), opAt P 131 1 4, (some (pth 13)), none⟩,
⟨(.bin .add (.tmp (pth 13)) (.val (.int .i64 (1)))), opAt P 131 1 5, (some (pth 14)), none⟩,
⟨(.mv (.tmp (pth 2))), opAt P 131 1 6, (some (pth 15)), none⟩,
⟨(.mv (.tmp (pth 3))), opAt P 131 1 7, (some (pth 16)), none⟩,
⟨(.call 132 [(.tmp (pth 9)), (.tmp (pth 11)), (.tmp (pth 12)), (.tmp (pth 14)), (.tmp (pth 15)), (.tmp (pth 16))]), opAt P 131 1 8, (some (pth 17)), none⟩,
⟨(.mv (.tmp (pth 17))), opAt P 131 1 9, (some (pth 8)), none⟩])
.ret)), [.tmp (pth 8)]⟩
theorem cf131_ok : cFn Try.prog 131 = some (cf131 Try.prog) := by kernel_rfl
def cf132 (P : Program) : FF := ⟨41, (.seq (.seqr [⟨(.mv (.val (.int .i64 (0)))), opAt P 132 0 0, (some (pth 12)), none⟩])
(.seq (.seqr [⟨(.mv (.tmp (pth 0))), opAt P 132 1 0, (some (pth 14)), none⟩,
⟨(.mv (.tmp (pth 1))), opAt P 132 1 1, (some (pth 15)), none⟩,
⟨(.mv (.tmp (pth 2))), opAt P 132 1 2, (some (pth 16)), none⟩,
⟨(.mv (.tmp (pth 4))), opAt P 132 1 3, (some (pth 17)), none⟩,
⟨(.mv (.tmp (pth 5))), opAt P 132 1 4, (some (pth 18)), none⟩,
⟨(.call 146 [(.tmp (pth 14)), (.tmp (pth 15)), (.tmp (pth 16)), (.tmp (pth 17)), (.tmp (pth 18))]), opAt P 132 1 5, (some (pth 19)), none⟩,
⟨(.mv (.tmp (pth 19))), opAt P 132 1 6, (some (pth 13)), none⟩,
⟨(.ext (.tmp (pth 13)) 0), opAt P 132 1 7, (some (pth 20)), none⟩,
⟨(.ext (.tmp (pth 13)) 1), opAt P 132 1 8, (some (pth 21)), none⟩,
⟨(.mv (.tmp (pth 20))), opAt P 132 1 9, (some (pth 1)), none⟩,
⟨(.mv (.tmp (pth 21))), opAt P 132 1 10, (some (pth 2)), none⟩])
(.seq (.seqr [⟨(.mv (.tmp (pth 0))), opAt P 132 2 0, (some (pth 23)), none⟩,
⟨(.mv (.tmp (pth 2))), opAt P 132 2 1, (some (pth 24)), none⟩,
⟨(.mv (.tmp (pth 3))), opAt P 132 2 2, (some (pth 25)), none⟩,
⟨(.mv (.tmp (pth 4))), opAt P 132 2 3, (some (pth 26)), none⟩,
⟨(.mv (.tmp (pth 5))), opAt P 132 2 4, (some (pth 27)), none⟩,
⟨(.call 146 [(.tmp (pth 23)), (.tmp (pth 24)), (.tmp (pth 25)), (.tmp (pth 26)), (.tmp (pth 27))]), opAt P 132 2 5, (some (pth 28)), none⟩,
⟨(.mv (.tmp (pth 28))), opAt P 132 2 6, (some (pth 22)), none⟩,
⟨(.ext (.tmp (pth 22)) 0), opAt P 132 2 7, (some (pth 29)), none⟩,
⟨(.ext (.tmp (pth 22)) 1), opAt P 132 2 8, (some (pth 30)), none⟩,
⟨(.mv (.tmp (pth 29))), opAt P 132 2 9, (some (pth 2)), none⟩,
⟨(.mv (.tmp (pth 30))), opAt P 132 2 10, (some (pth 3)), none⟩])
(.seq (.seqr [⟨(.mv (.tmp (pth 0))), opAt P 132 3 0, (some (pth 32)), none⟩,
⟨(.mv (.tmp (pth 1))), opAt P 132 3 1, (some (pth 33)), none⟩,
⟨(.mv (.tmp (pth 2))), opAt P 132 3 2, (some (pth 34)), none⟩,
⟨(.mv (.tmp (pth 4))), opAt P 132 3 3, (some (pth 35)), none⟩,
⟨(.mv (.tmp (pth 5))), opAt P 132 3 4, (some (pth 36)), none⟩,
⟨(.call 146 [(.tmp (pth 32)), (.tmp (pth 33)), (.tmp (pth 34)), (.tmp (pth 35)), (.tmp (pth 36))]), opAt P 132 3 5, (some (pth 37)), none⟩,
⟨(.mv (.tmp (pth 37))), opAt P 132 3 6, (some (pth 31)), none⟩,
⟨(.ext (.tmp (pth 31)) 0), opAt P 132 3 7, (some (pth 38)), none⟩,
⟨(.ext (.tmp (pth 31)) 1), opAt P 132 3 8, (some (pth 39)), none⟩,
⟨(.mv (.tmp (pth 38))), opAt P 132 3 9, (some (pth 1)), none⟩,
⟨(.mv (.tmp (pth 39))), opAt P 132 3 10, (some (pth 2)), none⟩])
(.seq (.seqr [⟨(.mv (.tmp (pth 2))), opAt P 132 4 0, (some (pth 40)), none⟩,
⟨(.mv (.tmp (pth 40))), opAt P 132 4 1, (some (pth 12)), none⟩])
.ret))))), [.tmp (pth 12)]⟩
theorem cf132_ok : cFn Try.prog 132 = some (cf132 Try.prog) := by kernel_rfl
def cf146 (P : Program) : FF := ⟨32, (.seq (.seqr [⟨(.mv (.val (.int .i64 (0)))), opAt P 146 0 0, (some (pth 10)), none⟩,
⟨(.mv (.val (.int .i64 (0)))), opAt P 146 0 1, (some (pth 11)), none⟩])
(.seq (.seq (.reg [⟨(.mv (.tmp (pth 4))), opAt P 146 1 0, (some (pth 12)), none⟩,
⟨(.mv (.tmp (pth 0))), opAt P 146 1 1, (some (pth 13)), none⟩,
⟨(.mv (.tmp (pth 2))), opAt P 146 1 2, (some (pth 14)), none⟩,
⟨(.ia (.tmp (pth 13)) (.tmp (pth 14)) 6), opAt P 146 1 3, (some (pth 15)), none⟩,
⟨(.ld 23 (.tmp (pth 15))), opAt P 146 1 4, (some (pth 16)), none⟩,
⟨(.mv (.tmp (pth 0))), opAt P 146 1 5, (some (pth 17)), none⟩,
⟨(.mv (.tmp (pth 1))), opAt P 146 1 6, (some (pth 18)), none⟩,
⟨(.ia (.tmp (pth 17)) (.tmp (pth 18)) 6), opAt P 146 1 7, (some (pth 19)), none⟩,
⟨(.ld 23 (.tmp (pth 19))), opAt P 146 1 8, (some (pth 20)), none⟩,
⟨.slow, opAt P 146 1 9, (some (pth 21)), none⟩,
⟨(.bin .lss (.tmp (pth 21)) (.val (.int .i64 (0)))), opAt P 146 1 10, (some (pth 22)), none⟩] [(4, 8)])
(.cond (.tmp (pth 22)) (.seq (.seqr [⟨(.mv (.tmp (pth 3))), opAt P 146 2 0, (some (pth 23)), none⟩,
⟨(.nc (.tmp (pth 23))), opAt P 146 2 1, (some (pth 24)), none⟩,
⟨(.ld 3 (.tmp (pth 24))), opAt P 146 2 2, (some (pth 25)), none⟩,
⟨(.bin .add (.tmp (pth 25)) (.val (.int .i64 (1)))), opAt P 146 2 3, (some (pth 26)), none⟩,
⟨(.nc (.tmp (pth 23))), opAt P 146 2 4, (some (pth 27)), none⟩,
⟨(.st 3 (.tmp (pth 27)) (.tmp (pth 26))), opAt P 146 2 5, none, none⟩])
(.seq (.seqr [⟨(.mv (.tmp (pth 2))), opAt P 146 3 0, (some (pth 28)), none⟩,
⟨(.mv (.tmp (pth 1))), opAt P 146 3 1, (some (pth 29)), none⟩,
⟨(.mv (.tmp (pth 28))), opAt P 146 3 2, (some (pth 10)), none⟩,
⟨(.mv (.tmp (pth 29))), opAt P 146 3 3, (some (pth 11)), none⟩])
.ret))
.skip))
(.seq (.seqr [⟨(.mv (.tmp (pth 1))), opAt P 146 4 0, (some (pth 30)), none⟩,
⟨(.mv (.tmp (pth 2))), opAt P 146 4 1, (some (pth 31)), none⟩,
⟨(.mv (.tmp (pth 30))), opAt P 146 4 2, (some (pth 10)), none⟩,
⟨(.mv (.tmp (pth 31))), opAt P 146 4 3, (some (pth 11)), none⟩])
.ret))), [.tmp (pth 10), .tmp (pth 11)]⟩
theorem cf146_ok : cFn Try.prog 146 = some (cf146 Try.prog) := by kernel_rfl
def ctL (P : Program) : List (Nat × FF) := [(4, cf4 P), (10, cf10 P), (11, cf11 P), (13, cf13 P), (15, cf15 P), (16, cf16 P), (17, cf17 P), (18, cf18 P), (19, cf19 P), (20, cf20 P), (21, cf21 P), (30, cf30 P), (31, cf31 P), (32, cf32 P), (33, cf33 P), (34, cf34 P), (35, cf35 P), (36, cf36 P), (37, cf37 P), (38, cf38 P), (39, cf39 P), (40, cf40 P), (41, cf41 P), (42, cf42 P), (43, cf43 P), (44, cf44 P), (45, cf45 P), (46, cf46 P), (61, cf61 P), (62, cf62 P), (63, cf63 P), (64, cf64 P), (65, cf65 P), (66, cf66 P), (67, cf67 P), (68, cf68 P), (87, cf87 P), (88, cf88 P), (89, cf89 P), (90, cf90 P), (106, cf106 P), (107, cf107 P), (108, cf108 P), (109, cf109 P), (110, cf110 P), (111, cf111 P), (112, cf112 P), (113, cf113 P), (114, cf114 P), (115, cf115 P), (128, cf128 P), (129, cf129 P), (130, cf130 P), (131, cf131 P), (132, cf132 P), (146, cf146 P)]
theorem ctL_ok : AllOK Try.prog (ctL Try.prog) := ⟨cf4_ok, ⟨cf10_ok, ⟨cf11_ok, ⟨cf13_ok, ⟨cf15_ok, ⟨cf16_ok, ⟨cf17_ok, ⟨cf18_ok, ⟨cf19_ok, ⟨cf20_ok, ⟨cf21_ok, ⟨cf30_ok, ⟨cf31_ok, ⟨cf32_ok, ⟨cf33_ok, ⟨cf34_ok, ⟨cf35_ok, ⟨cf36_ok, ⟨cf37_ok, ⟨cf38_ok, ⟨cf39_ok, ⟨cf40_ok, ⟨cf41_ok, ⟨cf42_ok, ⟨cf43_ok, ⟨cf44_ok, ⟨cf45_ok, ⟨cf46_ok, ⟨cf61_ok, ⟨cf62_ok, ⟨cf63_ok, ⟨cf64_ok, ⟨cf65_ok, ⟨cf66_ok, ⟨cf67_ok, ⟨cf68_ok, ⟨cf87_ok, ⟨cf88_ok, ⟨cf89_ok, ⟨cf90_ok, ⟨cf106_ok, ⟨cf107_ok, ⟨cf108_ok, ⟨cf109_ok, ⟨cf110_ok, ⟨cf111_ok, ⟨cf112_ok, ⟨cf113_ok, ⟨cf114_ok, ⟨cf115_ok, ⟨cf128_ok, ⟨cf129_ok, ⟨cf130_ok, ⟨cf131_ok, ⟨cf132_ok, ⟨cf146_ok, trivial⟩⟩⟩⟩⟩⟩⟩⟩⟩⟩⟩⟩⟩⟩⟩⟩⟩⟩⟩⟩⟩⟩⟩⟩⟩⟩⟩⟩⟩⟩⟩⟩⟩⟩⟩⟩⟩⟩⟩⟩⟩⟩⟩⟩⟩⟩⟩⟩⟩⟩⟩⟩⟩⟩⟩⟩
end Go.Proofs.Ytleengigapmnpaa
