/- What CheckStays wants, part 35. -/
import Derived.Test.YtpnahagiojelbaaGreatDoorCheckStaysB
import Derived.Test.YtpnahagiojelbaaGreatDoorCheckStaysP
import Derived.Test.YtpnahagiojelbaaGreatDoorCheckStaysU
import Derived.Laws.EntriesVeiled
set_option linter.unusedVariables false
set_option linter.unusedSimpArgs false
namespace Go.Proofs.YtpnahagiojelbaaGreatDoor
namespace dsk
set_option maxRecDepth 100000
open Go.ChangeShapes Go.WideShapes Go.ChangeAt Go.RowKit
open rows
open sec
abbrev AtE(w:World)(g:Nat)(e:Ev)(v:Value):Prop:=w.heap[g]? = some (.cells (evC e v).toArray 106 (0,0))
theorem a2t(w:World):AtE (w.alloc (.cells (evC (0,w0,[]) (.slice none 0 0)).toArray 106)) w.heap.size (0,w0,[]) (.slice none 0 0):=heap_alloc_new _ _
end dsk
end Go.Proofs.YtpnahagiojelbaaGreatDoor
