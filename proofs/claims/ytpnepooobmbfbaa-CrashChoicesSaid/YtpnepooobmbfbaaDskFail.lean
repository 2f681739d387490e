/- What the reference's Fail and Read give. -/
import Derived.Test.YtpnepooobmbfbaaDskAt
namespace Go.Proofs.Ytpnepooobmbfbaa.dsk
set_option maxRecDepth 100000
open Go.ChangeShapes Go.WideShapes Go.ChangeAt Go.RowKit
open Go.Proofs.Ytpnepooobmbfbaa.rows
open Go.Proofs.Ytpnepooobmbfbaa.sec
set_option linter.unusedVariables false
set_option linter.unusedSimpArgs false

def fail (st : St) (zs : List Int) : St := { st with bad := zs, asked := 0 }
end Go.Proofs.Ytpnepooobmbfbaa.dsk
