/- What PathBack wants, part 4. -/
import Derived.Test.YtpfpibmnhnjpmaaDoorPathBackC
import Derived.Laws.CopyOwn
import Derived.Deep.RegionLaw
import Derived.Lib.LazyBuf
/- What the code's small functions of layer 4 give. -/
namespace Go.Proofs.YtpfpibmnhnjpmaaDoor.sec
set_option maxRecDepth 100000
open Go.ChangeShapes Go.WideShapes Go.ChangeAt Go.RowKit
open Go.Proofs.YtpfpibmnhnjpmaaDoor.rows
set_option linter.unusedVariables false

def fits (i k : Int) : Prop := 0 ≤ i ∧ 0 ≤ k ∧ i + k ≤ 32
instance (i k : Int) : Decidable (fits i k) := by unfold fits; infer_instance
end Go.Proofs.YtpfpibmnhnjpmaaDoor.sec
