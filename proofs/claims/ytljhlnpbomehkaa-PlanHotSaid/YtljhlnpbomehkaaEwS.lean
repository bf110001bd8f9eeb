/- The evaluator at this seat's program: what it asks of the program. -/
import Derived.Test.YtljhlnpbomehkaaProg
import Derived.Test.YtljhlnpbomehkaaEwR
import Derived.KernelRfl
namespace Go.Proofs.Ytljhlnpbomehkaa
theorem evMixed : Try.prog.follows .mixedOrders = true := by kernel_rfl
theorem evNames0 : (Try.prog.funcs.toList.all fun fn => !(fn.name == "runtime.NumGoroutine")) = true := by kernel_rfl
theorem evNames : NameOK Try.prog := fun f fn h => by
  have := (List.all_eq_true.1 evNames0) fn (by simpa using Array.mem_of_getElem? h)
  simpa using this
end Go.Proofs.Ytljhlnpbomehkaa
