/- What ViewBack wants, part 3. -/
import Derived.Test.YtjedjkjhodgidaaGreatDoorViewBackA
import Derived.Test.YtjedjkjhodgidaaGreatDoorViewBackB
import Derived.RangeFuncNested
import Derived.RangeFuncBound
import Derived.RangeFuncCalls
import Derived.RangeFuncLeaves
import Derived.Shelf.Abstract
import Derived.Shelf.RegionOpen
import Derived.OwnWalkIn
import Derived.TacticsInMore
import Derived.LoopNIn
import Derived.LoopIn
set_option linter.unusedVariables false
namespace Go.Proofs.YtjedjkjhodgidaaGreatDoor
namespace rows
set_option maxRecDepth 100000
open Go
open Go.RowKit
section
variable {P:Program} {ops:Array Oper} {Q:Exit→Act→World→Prop} {md:Region.Mode} {n l:Nat}
def noDefer(o:Oper):Bool:=match o.op with | .defer _=>false|_=>true
theorem b3t{o:Oper}(h:noDefer o=true):∀c,o.op ≠ .defer c:=fun c e=>by rw[noDefer,e] at h;cases h
theorem b5y{row:String}{args:Array Value}{w:World}{R:Value→World→Prop}(h:Rows P row args w R):RowsIn (Fence.wide.inRound l) n P row args w R:=fun c cs _ =>
 let ⟨v,w',r,s⟩:=h c cs
 ⟨v,w',r,stepsIn_wide.2 s⟩
def onlyK(K:Act→World→Prop):Exit→Act→World→Prop:=Exit.then K (fun _ _ _=>False)
theorem a9t(K:Act→World→Prop):¬LetsOut (onlyK K):=fun⟨_,_,h⟩=>h
theorem op_in{o:Oper}(hnd:noDefer o=true){a:Act}{w:World}{K K0:Act→World→Prop}(h:o.wp P a w K (onlyK K0)):o.wpIn (Fence.wide.inRound l) n P a w K Q:=by
 unfold Oper.wpIn
 refine⟨fun _ _=>trivial,?_⟩
 rw[Fence.inRound_round,Oper.semAt_some l _ o (b3t hnd)]
 unfold Oper.wp at h
 generalize (execOp a.eval o).run P w=r at h
 cases r with
 | ok x w' =>
  cases x with
  | value v=>exact h
  | skip=>exact h
  | defer d=>exact h
  | enter f args =>
   refine⟨fun hd=>by simp[Fence.wide] at hd,CallsIn.inRound l (callsIn_wide.2 (Calls.mono h ?_))⟩
   intro e w'' he
   cases e with
   | returned v=>exact he
   | panicked c=>exact False.elim he
   | outgrown=>exact absurd he (a9t K0)
  | row row args=>exact⟨fun hd=>by simp[Fence.wide] at hd,b5y h⟩
  | _=>exact h.elim
 | halt x w'=>cases x<;>first|exact False.elim h|exact h
theorem a3j{o:Oper}{rest:List Oper}{a:Act}{w:World}(hnd:noDefer o=true)(h:wpList P ops (onlyK fun a' w'=>wpListIn (Fence.wide.inRound l) n P ops Q rest a' w') [o] a w):wpListIn (Fence.wide.inRound l) n P ops Q (o::rest) a w:=by
 unfold wpListIn
 unfold wpList at h
 split
 ·rename_i hw
  rw[if_pos hw] at h
  rcases h with h|h
  ·exact op_in hnd h
  ·exact absurd h.2 (a9t _)
 ·rename_i hw
  rw[if_neg hw] at h
  exact⟨fun _ _=>trivial,h⟩
theorem a2a{K:Act→World→Prop}{a:Act}{w:World}(h:K a w):wpList P ops (onlyK K) [] a w:=h
theorem a2o{f:FuncId}{args:Array Value}{w:World}{R:Ending→World→Prop}(h:Calls P f args w R):CallsIn (Fence.wide.inRound l) n P f args w R:=CallsIn.inRound l (callsIn_wide.2 h)
end
end rows
end Go.Proofs.YtjedjkjhodgidaaGreatDoor
