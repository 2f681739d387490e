/- What CheckStays wants, part 12. -/
import Derived.Test.YtpnahagiojelbaaGreatDoorCheckStaysB
import Derived.Test.YtpnahagiojelbaaGreatDoorCheckStaysC
import Derived.Deep.WholeRow
import Derived.Deep.Cut
set_option linter.unusedVariables false
namespace Go.Proofs.YtpnahagiojelbaaGreatDoor
namespace sec
set_option maxRecDepth 100000
open Go.ChangeShapes Go.WideShapes Go.ChangeAt Go.RowKit
open rows
abbrev agg(s:List Int):Value := .agg (u8s s).toArray
def zero32:List Int:=List.replicate 32 0
theorem a0i:Sec zero32:=by
 refine⟨by simp[zero32],fun x hx => ?_⟩
 have:=List.eq_of_mem_replicate hx
 omega
def At(w:World)(g:Nat)(s:List Int):Prop:=w.heap[g]? = some (.cells (u8s s).toArray 65)
theorem At.later{w w':World}{g:Nat}{s:List Int}(h:At w g s)(k:Below w.heap.size w w'):At w' g s:=(k.block g (Array.getElem?_eq_some_iff.1 h).1).trans h
theorem At.alloc{w:World}{g:Nat}{s:List Int}(h:At w g s)(o:Obj):At (w.alloc o) g s:=h.later (a0a (Below.refl _ _) o)
theorem at_new(w:World)(s:List Int):At (w.alloc (.cells (u8s s).toArray 65)) w.heap.size s:=heap_alloc_new _ _
theorem At.range{w:World}{g:Nat}{s:List Int}(h:At w g s):w.rangeAt g 0 (u8s s):=by
 have:=World.rangeAt_of_block h 0 (u8s s).toArray.size
 simpa using this
theorem At.cell{w:World}{g:Nat}{s:List Int}(h:At w g s){i:Nat}(hi:i<s.length):w.cell? ⟨g,i,none⟩=some (.int .u8 s[i]):=by
 have:=h.range i (.int .u8 s[i]) (by simp[u8s,hi])
 rwa [Nat.zero_add] at this
theorem a1v{ops:Array Oper}{rest:List Oper}{o:Oper}{a:Act}{w:World}{Q:Exit→Act→World→Prop}(hgd:o.guard=none)(x:Operand)(ho:o.op = .load 65 x)
  (g:Nat) (hx:a.eval x = .pointer (some ⟨g,0,none⟩)) (s:List Int) (hs:s.length=32) (hg:At w g s)
  (h:wpList Tryz.prog ops Q rest (a.put o.dst (agg s)) w):wpList Tryz.prog ops Q (o::rest) a w :=
 wpList_load_row hgd 65 x ho g hx 65 _ _ _ hg Tryz.underlying65 rfl (by rw[a1j];simp[u8s,hs]) h
theorem a2r{ops:Array Oper}{rest:List Oper}{o:Oper}{a:Act}{w:World}{Q:Exit→Act→World→Prop}(hw:Region.wanted o (yielded ops a.tmps)=true)(x:Operand)(ho:o.op = .load 65 x)
  (g:Nat) (hx:a.eval x = .pointer (some ⟨g,0,none⟩)) (s:List Int) (hs:s.length=32) (hg:At w g s)
  (h:wpList Tryz.prog ops Q rest (a.put o.dst (agg s)) w):wpList Tryz.prog ops Q (o::rest) a w :=
 wpList_step fun K hK=>by
  rw[if_pos hw]
  exact wp_load_row 65 x ho g hx 65 _ _ _ hg Tryz.underlying65 rfl (by rw[a1j];simp[u8s,hs]) (hK _ _ h)
def s12:List Int:=[1,2]++List.replicate 30 0
end sec
end Go.Proofs.YtpnahagiojelbaaGreatDoor
