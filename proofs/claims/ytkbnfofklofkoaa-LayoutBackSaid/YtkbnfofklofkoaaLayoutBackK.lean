/- What LayoutBack wants, part 11. -/
import Derived.WalkKit
import Derived.Laws.BitsAllLaws
import Derived.Shelf.Small.Strs
/- Plain mathematics of choices: digits in base 4, digits in base 2 or 3, and arrays of 32 digits. -/
namespace Go.Proofs.Ytkbnfofklofkoaa.choMath
set_option maxRecDepth 100000
open Go.RowKit
set_option linter.unusedVariables false

def fd (c i : Nat) : Nat := c / 4^i % 4
/-! the fates -/
/-! whether a number is a choice -/
/-! how many, which one, which number -/
def base (t : Bool) : Nat := if t then 3 else 2
/-- the reference's test at place i -/
def rp (c : Nat) (n : Int) (i : Nat) : Bool := fd c i != 3 && (decide ((i:Int) < n) || fd c i == 0)
/-! which choices are allowed -/
/-! texts -/
/-! forth and back -/
end Go.Proofs.Ytkbnfofklofkoaa.choMath
