/- What LayoutBack wants, part 13. -/
import Derived.Test.YtkbnfofklofkoaaLayoutBackB
import Derived.Test.YtkbnfofklofkoaaLayoutBackD
import Derived.Test.YtkbnfofklofkoaaLayoutBackJ
import Derived.Test.YtkbnfofklofkoaaLayoutBackL
import Derived.Outline
/- What the reference's Torn gives. -/
namespace Go.Proofs.Ytkbnfofklofkoaa.sec
set_option maxRecDepth 100000
open Go.ChangeShapes Go.WideShapes Go.ChangeAt Go.RowKit
open Go.Proofs.Ytkbnfofklofkoaa.rows
set_option linter.unusedVariables false
set_option linter.unusedSimpArgs false

theorem at_setCell {w : World} {g j : Nat} {s : List Int} (h : At w g s) (z : Int) : At (w.setCell ⟨g, j, none⟩ (.int .u8 z)) g (s.set j z) := by
  have := Go.Proofs.Ytkbnfofklofkoaa.dsk.setCell_heap (i := j) h (.int .u8 z)
  rw [At, this]
  simp [u8s, List.map_set]
theorem at_setCell_other {w : World} {g k j : Nat} {s : List Int} (h : At w k s) (hk : k ≠ g) (v : Value) : At (w.setCell ⟨g, j, none⟩ v) k s := (Below.heap_setCell _ _ _ _ hk).trans h
end Go.Proofs.Ytkbnfofklofkoaa.sec
