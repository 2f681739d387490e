/- What ViewBack wants, part 2. -/
import Derived.Below
import Derived.Lib.Hide
namespace Go.Proofs.YtjedjkjhodgidaaGreatDoor
section
open Go Go.RowKit
theorem ι{p:Prop}(h:p):Hid p:=Lib.hid h
abbrev Rt(w:World)(v:Value):Ending→World→Prop:=fun e w'=>e = .returned v∧Below w.heap.size w w'
end
end Go.Proofs.YtjedjkjhodgidaaGreatDoor
