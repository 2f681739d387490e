/- What ViewBack wants, part 8. -/
import Derived.Test.YtjedjkjhodgidaaGreatDoorViewBackB
import Derived.Test.YtjedjkjhodgidaaGreatDoorViewBackF
import Derived.Deep.CutRange
import Derived.Great.BuildSlice
set_option linter.unusedVariables false
set_option linter.unusedSimpArgs false
namespace Go.Proofs.YtjedjkjhodgidaaGreatDoor
namespace sec
set_option maxRecDepth 100000
open Go.ChangeShapes Go.WideShapes Go.ChangeAt Go.RowKit
open rows
def cutOk(i k:Int):Prop:=0≤i∧0≤k∧i+k≤32
instance (i k:Int):Decidable (cutOk i k):=by unfold cutOk;infer_instance
def cutN(i k:Int):Nat:=if cutOk i k then k.toNat else 0
def cutOf(s:List Int)(i k:Int):List Int:=if cutOk i k then (s.drop i.toNat).take k.toNat else []
def CutIs(f:Nat):Prop:=∀(s:List Int) (i k:Int) (w:World),Sec s→(Lit.int .i64 i).wf=true→(Lit.int .i64 k).wf=true →
 Calls Tryz.prog f #[agg s,.int .i64 i,.int .i64 k] w fun e w'=>∃p c,e = .returned (.slice p (cutN i k) c)∧Rd w' 1 (.slice p (cutN i k) c) (cutN i k) (u8s (cutOf s i k))∧Below w.heap.size w w'
theorem a0x{w w':World}{B:Nat}{e:TypeId}{sz n:Nat}{v:Value}{cs:List Value}(h:Own w B e sz v n cs)(hb:Below w.heap.size w w'):Own w' B e sz v n cs:=by
 refine⟨h.1,?_⟩
 rcases h.2 with h2|⟨g,cap,cur,hv,h3,h4,h5⟩
 ·exact Or.inl h2
 ·exact Or.inr ⟨g,cap,cur,hv,h3,(hb.block g (Array.getElem?_eq_some_iff.1 h4).1).trans h4,h5⟩
end sec
end Go.Proofs.YtjedjkjhodgidaaGreatDoor
