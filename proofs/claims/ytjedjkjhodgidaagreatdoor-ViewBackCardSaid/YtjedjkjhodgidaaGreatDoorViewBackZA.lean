/- What ViewBack wants, part 27. -/
import Derived.Test.YtjedjkjhodgidaaGreatDoorViewBackB
import Derived.Test.YtjedjkjhodgidaaGreatDoorViewBackQ
import Derived.Test.YtjedjkjhodgidaaGreatDoorViewBackZ
set_option linter.unusedVariables false
set_option linter.unusedSimpArgs false
namespace Go.Proofs.YtjedjkjhodgidaaGreatDoor
namespace pa
set_option maxRecDepth 100000
open Go.ChangeShapes Go.WideShapes Go.ChangeAt Go.RowKit
open rows
open ly
def SplitMx(f:Nat):Prop:=∀(s:ByteArray) (w:World),Mx w→s.size≤100000 →
 Calls Tryz.prog f #[.string s] w fun e w'=>∃p n c,e = .returned (.tuple #[.slice p n c,.int .i64 (errS (bys s))])∧n=(nms (bys s)).length∧Rd w' 1 (.slice p n c) n (strC (nms (bys s)))∧Below w.heap.size w w'
def ParentMx(f:Nat):Prop:=∀(s:ByteArray) (w:World),Mx w→s.size≤100000 →
 Calls Tryz.prog f #[.string s] w (Rt w (.tuple #[.string (strOfNums (parL (bys s))),.string (strOfNums (lastL (bys s))),.int .i64 (errP (bys s))]))
end pa
end Go.Proofs.YtjedjkjhodgidaaGreatDoor
