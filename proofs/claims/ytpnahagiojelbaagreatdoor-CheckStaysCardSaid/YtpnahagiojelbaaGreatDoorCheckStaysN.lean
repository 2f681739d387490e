/- What CheckStays wants, part 14. -/
import Derived.Test.YtpnahagiojelbaaGreatDoorCheckStaysB
import Derived.Test.YtpnahagiojelbaaGreatDoorCheckStaysL
import Derived.Deep.CutRange
import Derived.Great.BuildSlice
set_option linter.unusedVariables false
set_option linter.unusedSimpArgs false
namespace Go.Proofs.YtpnahagiojelbaaGreatDoor
namespace sec
set_option maxRecDepth 100000
open Go.ChangeShapes Go.WideShapes Go.ChangeAt Go.RowKit
open rows
theorem a8s{w:World}{ops:Array Oper}{o:Oper}{a:Act}{K:Act→World→Prop}{Q:Exit→Act→World→Prop}{F:Prop}(hw:Region.wanted o (yielded ops a.tmps)=true)(x y:Operand)(ho:o.op = .store 65 x y)
  (g:Nat) (hx:a.eval x = .pointer (some ⟨g,0,none⟩)) (s:List Int) (hy:a.eval y=agg s) (hs:s.length=32) (old:List Int) (hold:old.length=32) (hg:At w g old)
  (h:K (a.put o.dst undef) (w.setRow g (u8s s).toArray)):if Region.wanted o (yielded ops a.tmps)=true then Oper.wp Tryz.prog o a w K Q else F:=by
 rw[if_pos hw]
 have hl:(u8s s).toArray.size=32:=by simp[u8s,hs]
 have ho':(u8s old).toArray.size=32:=by simp[u8s,hold]
 exact wp_store_row 65 x y ho g (u8s s).toArray hx hy 65 _ hg (by rw[a1j,hl]) (by rw[ho',hl]) (by simp only[List.all_toArray];exact List.all_eq_true.2 (a1y .u8 s)) h
theorem below_setRow{B g:Nat}{a w:World}(h:Below B a w)(cs:Array Value)(hg:B≤g):Below B a (w.setRow g cs) :=
 h.trans ⟨rfl,rfl,rfl,by simp[World.setRow],fun k hk=>setRow_other w g k _ (by omega)⟩
def cutOk(i k:Int):Prop:=0≤i∧0≤k∧i+k≤32
instance (i k:Int):Decidable (cutOk i k):=by unfold cutOk;infer_instance
def cutN(i k:Int):Nat:=if cutOk i k then k.toNat else 0
def cutOf(s:List Int)(i k:Int):List Int:=if cutOk i k then (s.drop i.toNat).take k.toNat else []
def CutIs(f:Nat):Prop:=∀(s:List Int) (i k:Int) (w:World),Sec s→(Lit.int .i64 i).wf=true→(Lit.int .i64 k).wf=true →
 Calls Tryz.prog f #[agg s,.int .i64 i,.int .i64 k] w fun e w'=>∃p c,e = .returned (.slice p (cutN i k) c)∧Rd w' 1 (.slice p (cutN i k) c) (cutN i k) (u8s (cutOf s i k))∧Below w.heap.size w w'
theorem a1g{w w':World}{B:Nat}{e:TypeId}{sz n:Nat}{v:Value}{cs:List Value}(h:Own w B e sz v n cs)(hb:Below w.heap.size w w'):Own w' B e sz v n cs:=by
 refine⟨h.1,?_⟩
 rcases h.2 with h2|⟨g,cap,cur,hv,h3,h4,h5⟩
 ·exact Or.inl h2
 ·exact Or.inr ⟨g,cap,cur,hv,h3,(hb.block g (Array.getElem?_eq_some_iff.1 h4).1).trans h4,h5⟩
end sec
end Go.Proofs.YtpnahagiojelbaaGreatDoor
