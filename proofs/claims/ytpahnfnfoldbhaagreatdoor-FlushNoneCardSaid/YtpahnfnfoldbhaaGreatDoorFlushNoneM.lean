/- What FlushNone wants, part 13. -/
import Derived.Test.YtpahnfnfoldbhaaGreatDoorFlushNoneB
import Derived.Test.YtpahnfnfoldbhaaGreatDoorFlushNoneG
import Derived.Test.YtpahnfnfoldbhaaGreatDoorFlushNoneJ
import Derived.Test.YtpahnfnfoldbhaaGreatDoorRows
import Derived.WalkKit
import Derived.Laws.BitsAllLaws
import Derived.Shelf.Small.Strs
import Derived.ProofKit
import Derived.OpenShut
import Derived.Handy
import Derived.Deep.RegionWith
import Derived.Deep.QuietTactic
import Derived.BigQuiet
import Derived.Lib.Hide
import Derived.Deep.WholeRow
import Derived.Outline
set_option linter.unusedVariables false
set_option linter.unusedSimpArgs false
namespace Go.Proofs.YtpahnfnfoldbhaaGreatDoor
namespace sec
set_option maxRecDepth 100000
open Go.ChangeShapes Go.WideShapes Go.ChangeAt Go.RowKit
open rows
theorem at_setCell {w : World} {g j : Nat} {s : List Int} (h : At w g s) (z : Int) : At (w.setCell ⟨g, j, none⟩ (.int .u8 z)) g (s.set j z) := by
 have := Go.Proofs.YtpahnfnfoldbhaaGreatDoor.dsk.setCell_heap (i := j) h (.int .u8 z)
 rw [At, this]
 simp [u8s, List.map_set]
theorem at_setCell_other {w : World} {g k j : Nat} {s : List Int} (h : At w k s) (hk : k ≠ g) (v : Value) : At (w.setCell ⟨g, j, none⟩ v) k s := (Below.heap_setCell _ _ _ _ hk).trans h
end sec
end Go.Proofs.YtpahnfnfoldbhaaGreatDoor
