/- What LexBack wants, part 8. -/
import Derived.WalkKit
import Derived.Laws.BitsAllLaws
import Derived.Shelf.Small.Strs
set_option linter.unusedVariables false
namespace Go.Proofs.Ytahcndkifplekaa
namespace choMath
set_option maxRecDepth 100000
open Go.RowKit
def base (t : Bool) : Nat := if t then 3 else 2
def dg (b : UInt8) : Nat := if b = 108 then 0 else if b = 107 then 1 else if b = 116 then 2 else 3
def rg (l : List UInt8) (i : Nat) : Nat := dg (l.getD i 0)
end choMath
end Go.Proofs.Ytahcndkifplekaa
