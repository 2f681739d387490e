/- What ViewBack wants, part 37. -/
import Derived.Test.YtjedjkjhodgidaaGreatDoorViewBackB
import Derived.Test.YtjedjkjhodgidaaGreatDoorRows
import Derived.SizedLaws
import Derived.Handed
namespace Go.Proofs.YtjedjkjhodgidaaGreatDoor
namespace shp
set_option maxRecDepth 100000
open Go.ChangeShapes Go.WideShapes
theorem handed_of{H:Type}{enc:TypeId×Value→H}{a:Assume}{C:Checked}{os:Os}{f:FuncId}{fn:Func}{s:ChangeSpec}{cs:List PathCond}{ap fr ho ag:Bool}{X:World→Array Value→Prop}
  (hX:∀(w w':World) (v:Array Value),w.heap=w'.heap→X w v→X w' v)
  (h1:ownKnob C.prog.godebug=none) (h2:os.Started) (h3:C.prog.inits.idxOf? f=none) (hf:C.prog.funcs[f]? = some fn)
  (start:∃(w:World) (tape:Tape) (i:Input),w.os=os∧(w.forCall tape i).Shaped C.prog∧i.vars=[]∧Input.okWide C.prog (w.forCall tape i) .any w.heap.size f i ∧
   ((s.pre enc C.prog fn cs ap (w.forCall tape i).memory i.args∧X (w.forCall tape i).memory i.args)∧sizedMet enc C.prog fn (OpenSpec.ofChange s) ap (w.forCall tape i).memory i.args)∧a.holds C.prog (lone (Frame.enter C.prog f i.args .normal) [] (w.forCall tape i)))
  (walk:∀(W:World) (base:Nat) (args:Array Value) (ds gs:List (DataW H)) (before:List MemPlace),
   (∀(j:Nat) t v,fn.params[j]? = some t→args[j]? = some v→Value.okWide C.prog W .any base t v) →
   DataW.Whole enc C.prog fn.params.toList s.vars ap W args.toList ds gs before →
   X W args→W.ShapedOpen C.prog →
   Calls C.prog f args W fun e W'=>∃v,e = .returned v∧s.post enc C.prog fn ap fr ho ag W args v W') :
  ReturnsInHanded a C os f .any (fun w v=>(s.pre enc C.prog fn cs ap w v∧X w v)∧sizedMet enc C.prog fn (OpenSpec.ofChange s) ap w v) (s.post enc C.prog fn ap fr ho ag):=by
 refine returnsInHanded_of_calls h1 h2 h3 start ?_
 intro w tape i _ hsh _ hok hpre _
 obtain⟨_,_,_,fn',hf',_,_,_,_,hval⟩:=hok
 obtain rfl:=Option.some.inj (hf'.symm.trans hf)
 obtain⟨⟨⟨ds,gs,before,hw,_⟩,hx⟩,_⟩:=hpre
 refine(walk _ _ _ ds gs before hval (DataW.Whole.of_heap (w':=w.forCall tape i) (by rfl) hw) (hX _ _ _ (by rfl) hx) hsh).mono fun e W' ⟨v,he,hp⟩ => ?_
 subst he
 exact ChangeSpec.post_blind hp
end shp
end Go.Proofs.YtjedjkjhodgidaaGreatDoor
