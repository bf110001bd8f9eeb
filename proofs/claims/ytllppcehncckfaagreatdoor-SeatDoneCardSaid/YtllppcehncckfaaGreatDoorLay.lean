/-
  DERIVED: THE SHELF's CONTRACTS AT THIS DUMP, IN PLAIN WORDS (tools/lay-plain.mjs out of 'YtllppcehncckfaaGreatDoorLayS.lean', which tools/lay-shelf.mjs wrote): THE SAME DECLARATIONS UNDER THE SAME NAMES: 'import', 'namespace', 'open', 'def', 'theorem' AND NOTHING ELSE: no command of the shelf's: FOR A HAND-IN. Each laying: the table of numbers ('.._ren') and one theorem, a field a fact of the dump's own or the kernel's comparison; each contract: ONE APPLICATION.
-/
import Derived.Shelf.SlIter.Nil
import Derived.Shelf.SlIterI.Sorted
import Derived.Shelf.SortM.Plain
import Derived.Shelf.SortM.SortNone
import Derived.Ground.GgzProg
import Derived.Ground.SlgmProg
import Derived.Test.YtllppcehncckfaaGreatDoorProg
namespace Go.Proofs
open Go.Shelf
def Tryz.sorted141_ren : Go.Shelf.Ren := ⟨fun | 6 => 141 | 8 => 245 | 9 => 246 | 11 => 332 | 13 => 334 | 12 => 333 | 23 => 402 | 24 => 403 | 14 => 393 | 15 => 394 | 16 => 395 | 17 => 396 | 18 => 397 | 19 => 398 | 20 => 399 | 21 => 400 | 22 => 401 | 25 => 430 | 26 => 431 | 27 => 432 | 28 => 433 | 29 => 434 | 30 => 435 | 31 => 447 | n => n, fun | 26 => 9 | 28 => 239 | 24 => 155 | 0 => 0 | 3 => 3 | 37 => 146 | 48 => 299 | 50 => 202 | 4 => 4 | 40 => 436 | 39 => 435 | 45 => 241 | 5 => 5 | 9 => 9 | 51 => 457 | 55 => 164 | 57 => 468 | 58 => 219 | 33 => 144 | n => n, fun | n => n⟩
theorem Tryz.sorted141 : Go.Proofs.SlLaysZ.n6 Tryz.prog Tryz.sorted141_ren := {
  mixed := by kernel_rfl
  f6 := ⟨Tryz.f141.name, by decide, Tryz.func141.trans (congrArg some (by kernel_rfl))⟩
  f8 := ⟨Tryz.f245.name, by decide, Tryz.func245.trans (congrArg some (by kernel_rfl))⟩
  f11 := ⟨Tryz.f332.name, by decide, Tryz.func332.trans (congrArg some (by kernel_rfl))⟩
  t0 := Tryz.underlying0
  a0 := Tryz.isAgg0
  z0 := Tryz.sizeOf0
  v0 := Tryz.zeroValue0
  t24 := Tryz.underlying155
  a24 := Tryz.isAgg155
  z24 := Tryz.sizeOf155
  v24 := Tryz.zeroValue155
  t26 := Tryz.underlying9
  a26 := Tryz.isAgg9
  z26 := Tryz.sizeOf9
  v26 := Tryz.zeroValue9
  t28 := Tryz.underlying239
  a28 := Tryz.isAgg239
  z28 := Tryz.sizeOf239
  v28 := Tryz.zeroValue239
  i26 := by kernel_rfl }
def Tryz.sort246_ren : Go.Shelf.Ren := ⟨fun | 6 => 246 | 8 => 334 | 9 => 333 | 19 => 402 | 20 => 403 | 21 => 393 | 22 => 394 | 23 => 395 | 24 => 396 | 25 => 397 | 26 => 398 | 27 => 399 | 28 => 400 | 29 => 401 | 36 => 430 | 31 => 431 | 32 => 432 | 37 => 433 | 38 => 434 | 39 => 435 | 41 => 447 | n => n, fun | 27 => 155 | 29 => 9 | 3 => 3 | 32 => 146 | 26 => 155 | 0 => 0 | 44 => 299 | 46 => 202 | 4 => 4 | 36 => 436 | 35 => 435 | 41 => 241 | 5 => 5 | 9 => 9 | 53 => 457 | 57 => 164 | 63 => 468 | 64 => 219 | n => n, fun | n => n⟩
theorem Tryz.sort246 : Go.Proofs.SlLaysM.n6 Tryz.prog Tryz.sort246_ren := {
  mixed := by kernel_rfl
  f6 := ⟨Tryz.f246.name, by decide, Tryz.func246.trans (congrArg some (by kernel_rfl))⟩
  f8 := Tryz.func334.trans (congrArg some (by kernel_rfl))
  f9 := ⟨Tryz.f333.name, by decide, Tryz.func333.trans (congrArg some (by kernel_rfl))⟩
  f19 := Tryz.func402.trans (congrArg some (by kernel_rfl))
  f20 := Tryz.func403.trans (congrArg some (by kernel_rfl))
  f21 := ⟨Tryz.f393.name, by decide, Tryz.func393.trans (congrArg some (by kernel_rfl))⟩
  f22 := ⟨Tryz.f394.name, by decide, Tryz.func394.trans (congrArg some (by kernel_rfl))⟩
  f23 := ⟨Tryz.f395.name, by decide, Tryz.func395.trans (congrArg some (by kernel_rfl))⟩
  f24 := ⟨Tryz.f396.name, by decide, Tryz.func396.trans (congrArg some (by kernel_rfl))⟩
  f25 := ⟨Tryz.f397.name, by decide, Tryz.func397.trans (congrArg some (by kernel_rfl))⟩
  f26 := ⟨Tryz.f398.name, by decide, Tryz.func398.trans (congrArg some (by kernel_rfl))⟩
  f27 := ⟨Tryz.f399.name, by decide, Tryz.func399.trans (congrArg some (by kernel_rfl))⟩
  f28 := ⟨Tryz.f400.name, by decide, Tryz.func400.trans (congrArg some (by kernel_rfl))⟩
  f29 := ⟨Tryz.f401.name, by decide, Tryz.func401.trans (congrArg some (by kernel_rfl))⟩
  f31 := Tryz.func431.trans (congrArg some (by kernel_rfl))
  f32 := Tryz.func432.trans (congrArg some (by kernel_rfl))
  f36 := ⟨Tryz.f430.name, by decide, Tryz.func430.trans (congrArg some (by kernel_rfl))⟩
  f37 := ⟨Tryz.f433.name, by decide, Tryz.func433.trans (congrArg some (by kernel_rfl))⟩
  f38 := ⟨Tryz.f434.name, by decide, Tryz.func434.trans (congrArg some (by kernel_rfl))⟩
  f39 := ⟨Tryz.f435.name, by decide, Tryz.func435.trans (congrArg some (by kernel_rfl))⟩
  f41 := ⟨Tryz.f447.name, by decide, Tryz.func447.trans (congrArg some (by kernel_rfl))⟩
  t0 := Tryz.underlying0
  a0 := Tryz.isAgg0
  z0 := Tryz.sizeOf0
  v0 := Tryz.zeroValue0
  t3 := Tryz.underlying3
  a3 := Tryz.isAgg3
  z3 := Tryz.sizeOf3
  v3 := Tryz.zeroValue3
  t4 := Tryz.underlying4
  a4 := Tryz.isAgg4
  z4 := Tryz.sizeOf4
  v4 := Tryz.zeroValue4
  t5 := Tryz.underlying5
  a5 := Tryz.isAgg5
  z5 := Tryz.sizeOf5
  v5 := Tryz.zeroValue5
  t9 := Tryz.underlying9
  a9 := Tryz.isAgg9
  z9 := Tryz.sizeOf9
  v9 := Tryz.zeroValue9
  t26 := Tryz.underlying155
  a26 := Tryz.isAgg155
  z26 := Tryz.sizeOf155
  v26 := Tryz.zeroValue155
  t27 := Tryz.underlying155
  a27 := Tryz.isAgg155
  z27 := Tryz.sizeOf155
  v27 := Tryz.zeroValue155
  t29 := Tryz.underlying9
  a29 := Tryz.isAgg9
  z29 := Tryz.sizeOf9
  v29 := Tryz.zeroValue9
  t32 := Tryz.underlying146
  a32 := Tryz.isAgg146
  z32 := Tryz.sizeOf146
  v32 := Tryz.zeroValue146
  t35 := Tryz.underlying435
  a35 := Tryz.isAgg435
  z35 := Tryz.sizeOf435
  v35 := Tryz.zeroValue435
  t36 := Tryz.underlying436
  a36 := Tryz.isAgg436
  z36 := Tryz.sizeOf436
  v36 := Tryz.zeroValue436
  t41 := Tryz.underlying241
  a41 := Tryz.isAgg241
  z41 := Tryz.sizeOf241
  v41 := Tryz.zeroValue241
  t44 := Tryz.underlying299
  a44 := Tryz.isAgg299
  z44 := Tryz.sizeOf299
  v44 := Tryz.zeroValue299
  t46 := Tryz.underlying202
  a46 := Tryz.isAgg202
  z46 := Tryz.sizeOf202
  v46 := Tryz.zeroValue202
  t53 := Tryz.underlying457
  a53 := Tryz.isAgg457
  z53 := Tryz.sizeOf457
  v53 := Tryz.zeroValue457
  t57 := Tryz.underlying164
  a57 := Tryz.isAgg164
  z57 := Tryz.sizeOf164
  v57 := Tryz.zeroValue164
  t63 := Tryz.underlying468
  a63 := Tryz.isAgg468
  z63 := Tryz.sizeOf468
  v63 := Tryz.zeroValue468
  t64 := Tryz.underlying219
  a64 := Tryz.isAgg219
  z64 := Tryz.sizeOf219
  v64 := Tryz.zeroValue219 }
def Tryz.keys142_ren : Go.Shelf.Ren := ⟨fun | 7 => 142 | 10 => 247 | n => n, fun | 23 => 135 | 26 => 9 | 3 => 145 | 28 => 239 | 0 => 0 | 27 => 238 | 33 => 144 | 4 => 4 | n => n, fun | n => n⟩
theorem Tryz.keys142 : Go.Proofs.SlLaysZ.n7 Tryz.prog Tryz.keys142_ren := {
  mixed := by kernel_rfl
  f7 := ⟨Tryz.f142.name, by decide, Tryz.func142.trans (congrArg some (by kernel_rfl))⟩
  f10 := ⟨Tryz.f247.name, by decide, Tryz.func247.trans (congrArg some (by kernel_rfl))⟩
  t0 := Tryz.underlying0
  a0 := Tryz.isAgg0
  z0 := Tryz.sizeOf0
  v0 := Tryz.zeroValue0
  t4 := Tryz.underlying4
  a4 := Tryz.isAgg4
  z4 := Tryz.sizeOf4
  v4 := Tryz.zeroValue4
  t23 := Tryz.underlying135
  a23 := Tryz.isAgg135
  z23 := Tryz.sizeOf135
  v23 := Tryz.zeroValue135
  t26 := Tryz.underlying9
  a26 := Tryz.isAgg9
  z26 := Tryz.sizeOf9
  v26 := Tryz.zeroValue9
  t27 := Tryz.underlying238
  a27 := Tryz.isAgg238
  z27 := Tryz.sizeOf238
  v27 := Tryz.zeroValue238
  t28 := Tryz.underlying239
  a28 := Tryz.isAgg239
  z28 := Tryz.sizeOf239
  v28 := Tryz.zeroValue239
  t33 := Tryz.underlying144
  a33 := Tryz.isAgg144
  z33 := Tryz.sizeOf144
  v33 := Tryz.zeroValue144 }
end Go.Proofs
