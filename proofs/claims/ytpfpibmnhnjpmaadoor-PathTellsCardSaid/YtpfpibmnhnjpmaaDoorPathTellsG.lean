/- What PathTells wants, part 7. -/
import Derived.Test.YtpfpibmnhnjpmaaDoorPathTellsF
import Derived.Deep.WholeRow
/- A sector in a block of its own. -/
namespace Go.Proofs.YtpfpibmnhnjpmaaDoor.dsk
set_option maxRecDepth 100000
open Go.ChangeShapes Go.WideShapes Go.ChangeAt Go.RowKit
open Go.Proofs.YtpfpibmnhnjpmaaDoor.rows
open Go.Proofs.YtpfpibmnhnjpmaaDoor.sec
set_option linter.unusedVariables false
set_option linter.unusedSimpArgs false

abbrev agg (s : List Int) : Value := .agg (u8s s).toArray
end Go.Proofs.YtpfpibmnhnjpmaaDoor.dsk
/- What the reference's Fail and Read give. -/
namespace Go.Proofs.YtpfpibmnhnjpmaaDoor.dsk
set_option maxRecDepth 100000
open Go.ChangeShapes Go.WideShapes Go.ChangeAt Go.RowKit
open Go.Proofs.YtpfpibmnhnjpmaaDoor.rows
open Go.Proofs.YtpfpibmnhnjpmaaDoor.sec
set_option linter.unusedVariables false
set_option linter.unusedSimpArgs false

def fail (st : St) (zs : List Int) : St := { st with bad := zs, asked := 0 }
end Go.Proofs.YtpfpibmnhnjpmaaDoor.dsk
