/- What the reference's Spread gives. -/
import Derived.Test.YtpnepooobmbfbaaSecSame
namespace Go.Proofs.Ytpnepooobmbfbaa.sec
set_option maxRecDepth 100000
open Go.ChangeShapes Go.WideShapes Go.ChangeAt Go.RowKit
open Go.Proofs.Ytpnepooobmbfbaa.rows
set_option linter.unusedVariables false

/-- the first j bytes in K sectors -/
def part (zs : List Int) (j K : Nat) : List Value := u8s (zs.take j ++ List.replicate (K * 32 - j) 0)
end Go.Proofs.Ytpnepooobmbfbaa.sec
