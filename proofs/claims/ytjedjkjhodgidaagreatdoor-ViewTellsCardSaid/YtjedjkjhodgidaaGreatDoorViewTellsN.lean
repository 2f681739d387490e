/- What ViewTells wants, part 14. -/
import Derived.Test.YtjedjkjhodgidaaGreatDoorViewTellsB
import Derived.Test.YtjedjkjhodgidaaGreatDoorViewTellsC
import Derived.Test.YtjedjkjhodgidaaGreatDoorViewTellsE
import Derived.Test.YtjedjkjhodgidaaGreatDoorViewTellsK
import Derived.Test.YtjedjkjhodgidaaGreatDoorViewTellsM
import Derived.DeepKeys5
import Derived.DeepKeys3
import Derived.Outline
set_option linter.unusedVariables false
set_option linter.unusedSimpArgs false
namespace Go.Proofs.YtjedjkjhodgidaaGreatDoor
namespace sec
set_option maxRecDepth 100000
open Go.ChangeShapes Go.WideShapes Go.ChangeAt Go.RowKit
open rows
theorem a3q{w:World}{g j:Nat}{s:List Int}(h:At w g s)(z:Int):At (w.setCell ⟨g,j,none⟩ (.int .u8 z)) g (s.set j z):=by
 have:=dsk.a0s (i:=j) h (.int .u8 z)
 rw[At,this]
 simp[u8s,List.map_set]
theorem a0u{w:World}{g k j:Nat}{s:List Int}(h:At w k s)(hk:k≠g)(v:Value):At (w.setCell ⟨g,j,none⟩ v) k s:=(Below.heap_setCell _ _ _ _ hk).trans h
end sec
namespace dsk
open Go.ChangeShapes Go.WideShapes Go.ChangeAt Go.RowKit
open rows
open sec
set_option maxRecDepth 100000
section
variable {H:Type} {enc:TypeId×Value→H} {W:World} {base:Nat} {spare:Nat→Bool} {held:Bool}
theorem cellsWr:Tryz.prog.cellsOf 78=36:=by kernel_rfl
theorem b3z:(Tryz.prog.fieldsOf 78).toList.map (fun f=>(f.type,f.offset))=[(3,0),(74,1),(76,33),(3,35)]:=by kernel_rfl
theorem b1w{n:Nat}{cs:List Value}{x:DataW H×List MemPlace}(h:DataW.trod enc Tryz.prog W base spare held n 78 cs=some x):∃a:Wr,a.ok∧cs=a.c:=by
 obtain⟨hl,hf⟩:=a7s b5k b3z h
 rw[cellsWr] at hl
 obtain⟨_,_,h0⟩:=hf 0 _ _ rfl
 obtain⟨_,_,h1⟩:=hf 1 _ _ rfl
 obtain⟨_,_,h2⟩:=hf 2 _ _ rfl
 obtain⟨_,_,h3⟩:=hf 3 _ _ rfl
 rw[cellsInt] at h0 h3
 rw[cellsSec] at h1
 rw[cellsTag] at h2
 obtain⟨ps,wps,e0⟩:=a5p h0
 obtain⟨s,hs,e1⟩:=a5l h1
 obtain⟨⟨k,id⟩,⟨wk,wid⟩,e2⟩:=b0w h2
 obtain⟨ep,wep,e3⟩:=a5p h3
 refine⟨⟨ps,s,k,id,ep⟩,⟨hs,wps,wk,wid,wep⟩,?_⟩
 have q0:=a2v cs 0 1
 have q1:=a2v cs 1 32
 have q2:=a2v cs 33 2
 have q3:=a2v cs 35 1
 rw[e0] at q0
 rw[e1] at q1
 rw[e2] at q2
 rw[e3,List.drop_of_length_le (i:=35+1) (by omega),List.append_nil] at q3
 simp only[Nat.reduceAdd] at q0 q1 q2 q3
 rw[List.drop_zero,← q1,← q2,← q3] at q0
 rw[← q0]
 simp[Wr.c,tagC]
end
end dsk
end Go.Proofs.YtjedjkjhodgidaaGreatDoor
