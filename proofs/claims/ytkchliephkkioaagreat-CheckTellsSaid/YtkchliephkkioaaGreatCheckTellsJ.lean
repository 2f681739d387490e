/- What CheckTells wants, part 10. -/
import Derived.Test.YtkchliephkkioaaGreatCheckTellsB
import Derived.WalkKit
import Derived.Laws.BitsAllLaws
import Derived.Shelf.Small.Strs
set_option linter.unusedVariables false
namespace Go.Proofs.YtkchliephkkioaaGreat
namespace choMath
set_option maxRecDepth 100000
open Go.RowKit
def fd(c i:Nat):Nat:=c / 4^i % 4
def fl(c:Nat):List Nat:=(List.range 32).map (fd c)
def base(t:Bool):Nat:=if t then 3 else 2
def rk(b c n:Nat):Nat→Nat
 | 0=>0
 | j+1=>rk b c n j * b+fd c (n-1-j)
end choMath
end Go.Proofs.YtkchliephkkioaaGreat
