/- What SfsRenames wants, part 21. -/
import Derived.Test.YtiaapfijbidgnaaGreatDoorSfsRenamesA
import Derived.Test.YtiaapfijbidgnaaGreatDoorSfsRenamesB
import Derived.RangeFuncNested
import Derived.RangeFuncBound
import Derived.RangeFuncCalls
import Derived.RangeFuncLeaves
import Derived.Shelf.Abstract
import Derived.Shelf.RegionOpen
import Derived.OwnWalkIn
import Derived.TacticsInMore
import Derived.LoopNIn
import Derived.LoopIn
set_option linter.unusedVariables false
namespace Go.Proofs.YtiaapfijbidgnaaGreatDoor
namespace rows
set_option maxRecDepth 100000
open Go
open Go.RowKit
section
variable {P:Program} {ops:Array Oper} {Q:Exit→Act→World→Prop} {md:Region.Mode} {n l:Nat}
def noDefer(o:Oper):Bool:=match o.op with | .defer _=>false|_=>true
theorem c4a{o:Oper}(h:noDefer o=true):∀c,o.op ≠ .defer c:=fun c e=>by rw[noDefer,e] at h;cases h
theorem d1k{row:String}{args:Array Value}{w:World}{R:Value→World→Prop}(h:Rows P row args w R):RowsIn (Fence.wide.inRound l) n P row args w R:=fun c cs _ =>
 let ⟨v,w',r,s⟩:=h c cs
 ⟨v,w',r,stepsIn_wide.2 s⟩
def onlyK(K:Act→World→Prop):Exit→Act→World→Prop:=Exit.then K (fun _ _ _=>False)
theorem a6p(K:Act→World→Prop):¬LetsOut (onlyK K):=fun⟨_,_,h⟩=>h
theorem op_in{o:Oper}(hnd:noDefer o=true){a:Act}{w:World}{K K0:Act→World→Prop}(h:o.wp P a w K (onlyK K0)):o.wpIn (Fence.wide.inRound l) n P a w K Q:=by
 unfold Oper.wpIn
 refine⟨fun _ _=>trivial,?_⟩
 rw[Fence.inRound_round,Oper.semAt_some l _ o (c4a hnd)]
 unfold Oper.wp at h
 generalize (execOp a.eval o).run P w=r at h
 cases r with
 | ok x w' =>
  cases x with
  | value v=>exact h
  | skip=>exact h
  | defer d=>exact h
  | enter f args =>
   refine⟨fun hd=>by simp[Fence.wide] at hd,CallsIn.inRound l (callsIn_wide.2 (Calls.mono h ?_))⟩
   intro e w'' he
   cases e with
   | returned v=>exact he
   | panicked c=>exact False.elim he
   | outgrown=>exact absurd he (a6p K0)
  | row row args=>exact⟨fun hd=>by simp[Fence.wide] at hd,d1k h⟩
  | _=>exact h.elim
 | halt x w'=>cases x<;>first|exact False.elim h|exact h
theorem b0b{o:Oper}{rest:List Oper}{a:Act}{w:World}(hnd:noDefer o=true)(h:wpList P ops (onlyK fun a' w'=>wpListIn (Fence.wide.inRound l) n P ops Q rest a' w') [o] a w):wpListIn (Fence.wide.inRound l) n P ops Q (o::rest) a w:=by
 unfold wpListIn
 unfold wpList at h
 split
 ·rename_i hw
  rw[if_pos hw] at h
  rcases h with h|h
  ·exact op_in hnd h
  ·exact absurd h.2 (a6p _)
 ·rename_i hw
  rw[if_neg hw] at h
  exact⟨fun _ _=>trivial,h⟩
theorem a4t{K:Act→World→Prop}{a:Act}{w:World}(h:K a w):wpList P ops (onlyK K) [] a w:=h
theorem op_wide{o:Oper}{a:Act}{w:World}{K K0:Act→World→Prop}(h:o.wp P a w K (onlyK K0)):o.wpIn Fence.wide n P a w K Q:=by
 unfold Oper.wpIn
 refine⟨fun _ _=>trivial,?_⟩
 rw[Fence.wide_round,Oper.semAt_none]
 unfold Oper.wp at h
 generalize (execOp a.eval o).run P w=r at h
 cases r with
 | ok x w' =>
  cases x with
  | value v=>exact h
  | skip=>exact h
  | defer d=>exact h
  | enter f args =>
   refine⟨fun hd=>by simp[Fence.wide] at hd,callsIn_wide.2 (Calls.mono h ?_)⟩
   intro e w'' he
   cases e with
   | returned v=>exact he
   | panicked c=>exact False.elim he
   | outgrown=>exact absurd he (a6p K0)
  | row row args =>
   exact⟨fun hd=>by simp[Fence.wide] at hd,fun c cs _=>let ⟨v,w'',r,s⟩:=h c cs;⟨v,w'',r,stepsIn_wide.2 s⟩⟩
  | _=>exact h.elim
 | halt x w'=>cases x<;>first|exact False.elim h|exact h
theorem d2s{o:Oper}{rest:List Oper}{a:Act}{w:World}(h:wpList P ops (onlyK fun a' w'=>wpListIn Fence.wide n P ops Q rest a' w') [o] a w):wpListIn Fence.wide n P ops Q (o::rest) a w:=by
 unfold wpListIn
 unfold wpList at h
 split
 ·rename_i hw
  rw[if_pos hw] at h
  rcases h with h|h
  ·exact op_wide h
  ·exact absurd h.2 (a6p _)
 ·rename_i hw
  rw[if_neg hw] at h
  exact⟨fun _ _=>trivial,h⟩
theorem d2x{i:Nat}(hnd:ops.all noDefer=true){K K0:Act→World→Prop}{a:Act}{w:World}(h:wpOp P ops (onlyK K0) i K a w):wpOpIn (Fence.wide.inRound l) n P ops Q i K a w:=by
 unfold wpOpIn
 unfold wpOp at h
 cases ho:ops[i]? with
 | none=>simp only[ho] at h;exact h
 | some o =>
  simp only[ho] at h
  have hno:noDefer o=true:=Array.all_eq_true'.1 hnd o (Array.mem_of_getElem? ho)
  by_cases hw:Region.wanted o (yielded ops a.tmps)=true
  ·simp only[if_pos hw] at h ⊢
   rcases h with h|h
   ·exact op_in hno h
   ·exact absurd h.2 (a6p _)
  ·simp only[if_neg hw] at h ⊢
   exact⟨fun _ _=>trivial,h⟩
theorem d5k(hnd:ops.all noDefer=true):∀(fuel:Nat) (listed:Array Bool) (a:Act) (w:World),wpAny P md ops (onlyK fun a w=>Q .normal a w) fuel listed a w→wpAnyIn (Fence.wide.inRound l) n P md ops Q fuel listed a w
 | 0,_,_,_,h=>h
 | fuel+1,_,_,_,h=>⟨h.1,fun i hi=>wpOpIn_mono (fun a' w' h'=>d5k hnd fuel _ a' w' h') (d2x hnd (h.2 i hi))⟩
theorem b2x{id:Nat}{a:Act}{w:World}(hnd:ops.all noDefer=true)(hm:P.follows .mixedOrders=true)
  (h:wpAny P .any ops (onlyK fun a w=>Q .normal a w) ops.size (Array.replicate ops.size false) a w.drew):(Code.region id ops true).wpIn (Fence.wide.inRound l) n P Q a w :=
 wpIn_region_any hm (d5k hnd _ _ _ _ h)
theorem b3a(L:Nat){id:Nat}{S:World→Prop}{a:Act}{w:World}(hnd:ops.all noDefer=true)(hm:P.follows .mixedOrders=true)(hS:S w.drew)
  (h:S w.drew→wpAnyL P .any ops (onlyK fun a w=>Q .normal a w) S L ops.size (Array.replicate ops.size false) a w.drew):(Code.region id ops true).wpIn (Fence.wide.inRound l) n P Q a w :=
 b2x hnd hm (a5y _ _ _ _ (h hS))
theorem b6q{f:FuncId}{args:Array Value}{w:World}{R:Ending→World→Prop}(h:Calls P f args w R):CallsIn (Fence.wide.inRound l) n P f args w R:=CallsIn.inRound l (callsIn_wide.2 h)
end
end rows
end Go.Proofs.YtiaapfijbidgnaaGreatDoor
