/- What AllocFree wants, part 9. -/
import Derived.WalkKit
import Derived.Laws.BitsAllLaws
import Derived.Shelf.Small.Strs
/- Plain mathematics of choices: digits in base 4, digits in base 2 or 3, and arrays of 32 digits. -/
namespace Go.Proofs.Ytpckdjnddoaffaa.choMath
set_option maxRecDepth 100000
open Go.RowKit
set_option linter.unusedVariables false

/-! the fates -/
/-! whether a number is a choice -/
/-! how many, which one, which number -/
def base (t : Bool) : Nat := if t then 3 else 2
def cnt (n : Int) (t : Bool) : Nat := if 0 ≤ n ∧ n ≤ 32 then base t ^ n.toNat else 0
/-! which choices are allowed -/
/-! texts -/
/-! forth and back -/
end Go.Proofs.Ytpckdjnddoaffaa.choMath
