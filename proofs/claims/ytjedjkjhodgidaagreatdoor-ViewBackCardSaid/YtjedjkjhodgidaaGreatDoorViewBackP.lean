/- What ViewBack wants, part 16. -/
import Derived.Test.YtjedjkjhodgidaaGreatDoorViewBackB
import Derived.Test.YtjedjkjhodgidaaGreatDoorViewBackD
import Derived.Test.YtjedjkjhodgidaaGreatDoorViewBackG
import Derived.Test.YtjedjkjhodgidaaGreatDoorViewBackM
import Derived.Test.YtjedjkjhodgidaaGreatDoorViewBackO
import Derived.DeepKeys5
import Derived.DeepKeys3
import Derived.Outline
set_option linter.unusedVariables false
set_option linter.unusedSimpArgs false
namespace Go.Proofs.YtjedjkjhodgidaaGreatDoor
namespace sec
set_option maxRecDepth 100000
open Go.ChangeShapes Go.WideShapes Go.ChangeAt Go.RowKit
open rows
theorem a7x{w:World}{g j:Nat}{s:List Int}(h:At w g s)(z:Int):At (w.setCell ⟨g,j,none⟩ (.int .u8 z)) g (s.set j z):=by
 have:=dsk.a0f (i:=j) h (.int .u8 z)
 rw[At,this]
 simp[u8s,List.map_set]
theorem a1l{w:World}{g k j:Nat}{s:List Int}(h:At w k s)(hk:k≠g)(v:Value):At (w.setCell ⟨g,j,none⟩ v) k s:=(Below.heap_setCell _ _ _ _ hk).trans h
end sec
end Go.Proofs.YtjedjkjhodgidaaGreatDoor
