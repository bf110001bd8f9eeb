/- What span.Within returns. -/
import Derived.Test.YtbohpjinkdffhaaSqA
namespace Go.Proofs.Ytbohpjinkdffhaa
open Go.RowKit
set_option linter.unusedVariables false
set_option linter.unusedSimpArgs false

def joinB (f t g u : ByteArray) : Bool := isB f t && isB g u && !t.toList.isEmpty && t.toList == g.toList
def withinB (f t g u : ByteArray) : Bool := isB f t && isB g u && !(Op.bytesLess f.toList g.toList) && (u.toList.isEmpty || (!t.toList.isEmpty && (Op.bytesLess t.toList u.toList || t.toList == u.toList)))
end Go.Proofs.Ytbohpjinkdffhaa
