/- What CheckStays wants, part 10. -/
import Derived.Test.YtpnahagiojelbaaGreatDoorCheckStaysB
import Derived.WalkKit
import Derived.Laws.BitsAllLaws
import Derived.Shelf.Small.Strs
set_option linter.unusedVariables false
namespace Go.Proofs.YtpnahagiojelbaaGreatDoor
namespace choMath
set_option maxRecDepth 100000
open Go.RowKit
def fd(c i:Nat):Nat:=c / 4^i % 4
def fl(c:Nat):List Nat:=(List.range 32).map (fd c)
def base(t:Bool):Nat:=if t then 3 else 2
def cnt(n:Int)(t:Bool):Nat:=if 0≤n∧n≤32 then base t ^ n.toNat else 0
end choMath
end Go.Proofs.YtpnahagiojelbaaGreatDoor
