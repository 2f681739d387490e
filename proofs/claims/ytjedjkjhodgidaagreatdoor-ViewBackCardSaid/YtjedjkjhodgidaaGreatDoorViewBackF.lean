/- What ViewBack wants, part 6. -/
import Derived.Test.YtjedjkjhodgidaaGreatDoorViewBackB
import Derived.Test.YtjedjkjhodgidaaGreatDoorViewBackD
import Derived.Deep.WholeRow
import Derived.Deep.Cut
set_option linter.unusedVariables false
namespace Go.Proofs.YtjedjkjhodgidaaGreatDoor
namespace sec
set_option maxRecDepth 100000
open Go.ChangeShapes Go.WideShapes Go.ChangeAt Go.RowKit
open rows
abbrev agg(s:List Int):Value := .agg (u8s s).toArray
def zero32:List Int:=List.replicate 32 0
theorem a1n:Sec zero32:=by
 refine⟨by simp[zero32],fun x hx => ?_⟩
 have:=List.eq_of_mem_replicate hx
 omega
def At(w:World)(g:Nat)(s:List Int):Prop:=w.heap[g]? = some (.cells (u8s s).toArray 74)
theorem At.later{w w':World}{g:Nat}{s:List Int}(h:At w g s)(k:Below w.heap.size w w'):At w' g s:=(k.block g (Array.getElem?_eq_some_iff.1 h).1).trans h
theorem At.alloc{w:World}{g:Nat}{s:List Int}(h:At w g s)(o:Obj):At (w.alloc o) g s:=h.later (a0b (Below.refl _ _) o)
theorem at_new(w:World)(s:List Int):At (w.alloc (.cells (u8s s).toArray 74)) w.heap.size s:=heap_alloc_new _ _
theorem At.range{w:World}{g:Nat}{s:List Int}(h:At w g s):w.rangeAt g 0 (u8s s):=by
 have:=World.rangeAt_of_block h 0 (u8s s).toArray.size
 simpa using this
theorem At.cell{w:World}{g:Nat}{s:List Int}(h:At w g s){i:Nat}(hi:i<s.length):w.cell? ⟨g,i,none⟩=some (.int .u8 s[i]):=by
 have:=h.range i (.int .u8 s[i]) (by simp[u8s,hi])
 rwa [Nat.zero_add] at this
theorem a5q{ops:Array Oper}{rest:List Oper}{o:Oper}{a:Act}{w:World}{Q:Exit→Act→World→Prop}(hgd:o.guard=none)(x:Operand)(ho:o.op = .load 74 x)
  (g:Nat) (hx:a.eval x = .pointer (some ⟨g,0,none⟩)) (s:List Int) (hs:s.length=32) (hg:At w g s)
  (h:wpList Tryz.prog ops Q rest (a.put o.dst (agg s)) w):wpList Tryz.prog ops Q (o::rest) a w :=
 wpList_load_row hgd 74 x ho g hx 74 _ _ _ hg Tryz.underlying74 rfl (by rw[a0m];simp[u8s,hs]) h
theorem a1b{ops:Array Oper}{rest:List Oper}{o:Oper}{a:Act}{w:World}{Q:Exit→Act→World→Prop}(hw:Region.wanted o (yielded ops a.tmps)=true)(x:Operand)(ho:o.op = .load 74 x)
  (g:Nat) (hx:a.eval x = .pointer (some ⟨g,0,none⟩)) (s:List Int) (hs:s.length=32) (hg:At w g s)
  (h:wpList Tryz.prog ops Q rest (a.put o.dst (agg s)) w):wpList Tryz.prog ops Q (o::rest) a w :=
 wpList_step fun K hK=>by
  rw[if_pos hw]
  exact wp_load_row 74 x ho g hx 74 _ _ _ hg Tryz.underlying74 rfl (by rw[a0m];simp[u8s,hs]) (hK _ _ h)
def s12:List Int:=[1,2]++List.replicate 30 0
theorem rd_lit(w:World)(e:TypeId)(sz n:Nat)(cs:Array Value)(h:cs.size=n * sz)(h0:0<n)(hn:n≤1000):Rd (w.alloc (.cells cs e)) sz (.slice (some ⟨w.heap.size,0,none⟩) n n) n cs.toList:=by
 refine Or.inr ⟨w.heap.size,0,n,rfl,h0,Nat.le_refl _,by unfold maxLen;omega,by simp,by simp[h],?_⟩
 intro i u hi
 rw[World.cell?_alloc_new,Nat.zero_add]
 simpa using hi
end sec
end Go.Proofs.YtjedjkjhodgidaaGreatDoor
