/- What LexBack wants, part 4. -/
import Derived.Test.YtahcndkifplekaaLexBackC
import Derived.Laws.CopyOwn
import Derived.Deep.RegionLaw
import Derived.Lib.LazyBuf
set_option linter.unusedVariables false
namespace Go.Proofs.Ytahcndkifplekaa
namespace sec
set_option maxRecDepth 100000
open Go.ChangeShapes Go.WideShapes Go.ChangeAt Go.RowKit
open rows
def fits (i k : Int) : Prop := 0 ≤ i ∧ 0 ≤ k ∧ i + k ≤ 32
instance (i k : Int) : Decidable (fits i k) := by unfold fits; infer_instance
end sec
end Go.Proofs.Ytahcndkifplekaa
