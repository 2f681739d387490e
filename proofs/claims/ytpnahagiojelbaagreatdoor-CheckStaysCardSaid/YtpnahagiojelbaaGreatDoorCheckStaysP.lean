/- What CheckStays wants, part 16. -/
import Derived.Test.YtpnahagiojelbaaGreatDoorCheckStaysB
import Derived.Test.YtpnahagiojelbaaGreatDoorCheckStaysC
import Derived.Test.YtpnahagiojelbaaGreatDoorCheckStaysH
import Derived.Test.YtpnahagiojelbaaGreatDoorCheckStaysK
import Derived.Test.YtpnahagiojelbaaGreatDoorCheckStaysM
import Derived.Outline
set_option linter.unusedVariables false
set_option linter.unusedSimpArgs false
namespace Go.Proofs.YtpnahagiojelbaaGreatDoor
namespace sec
set_option maxRecDepth 100000
open Go.ChangeShapes Go.WideShapes Go.ChangeAt Go.RowKit
open rows
theorem b3i{w:World}{g j:Nat}{s:List Int}(h:At w g s)(z:Int):At (w.setCell ⟨g,j,none⟩ (.int .u8 z)) g (s.set j z):=by
 have:=dsk.a0e (i:=j) h (.int .u8 z)
 rw[At,this]
 simp[u8s,List.map_set]
theorem a3h{w:World}{g k j:Nat}{s:List Int}(h:At w k s)(hk:k≠g)(v:Value):At (w.setCell ⟨g,j,none⟩ v) k s:=(Below.heap_setCell _ _ _ _ hk).trans h
end sec
namespace dsk
set_option maxRecDepth 100000
open Go.ChangeShapes Go.WideShapes Go.ChangeAt Go.RowKit
open rows
open sec
open choMath
def eps(ws:List Wr):List Int:=ws.map Wr.ep
end dsk
end Go.Proofs.YtpnahagiojelbaaGreatDoor
