/- What LookReads wants, part 30. -/
import Derived.Test.YtofnciffdhjacaaGreatDoorLookReadsA
import Derived.Shelf.Vars
/- The library's variable holds an integer in a world of the program's shape. -/
namespace Go.Proofs.YtofnciffdhjacaaGreatDoor.pa
set_option maxRecDepth 100000
open Go.ChangeShapes Go.WideShapes Go.ChangeAt Go.RowKit
set_option linter.unusedVariables false

theorem mx_of {w : World} (h : w.ShapedOpen Tryz.prog) : Mx w := cell_of_shapedOpen_int (zero := #[.int .i64 0]) (t := 3) h (of_decide_eq_true (by kernel_rfl)) (by kernel_rfl) rfl (by kernel_rfl) (by kernel_rfl) Tryz.underlying3
end Go.Proofs.YtofnciffdhjacaaGreatDoor.pa
