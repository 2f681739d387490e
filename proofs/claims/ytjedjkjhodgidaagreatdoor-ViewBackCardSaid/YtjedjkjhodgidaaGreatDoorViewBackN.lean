/- What ViewBack wants, part 14. -/
import Derived.Test.YtjedjkjhodgidaaGreatDoorViewBackB
import Derived.WalkKit
import Derived.Laws.BitsAllLaws
import Derived.Shelf.Small.Strs
set_option linter.unusedVariables false
namespace Go.Proofs.YtjedjkjhodgidaaGreatDoor
namespace choMath
set_option maxRecDepth 100000
open Go.RowKit
def fd(c i:Nat):Nat:=c / 4^i % 4
def fl(c:Nat):List Nat:=(List.range 32).map (fd c)
def base(t:Bool):Nat:=if t then 3 else 2
end choMath
end Go.Proofs.YtjedjkjhodgidaaGreatDoor
