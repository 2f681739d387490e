/- What ViewBack wants, part 10. -/
import Derived.Test.YtjedjkjhodgidaaGreatDoorViewBackB
import Derived.Test.YtjedjkjhodgidaaGreatDoorViewBackD
import Derived.Great.BuildSlice
set_option linter.unusedVariables false
set_option linter.unusedSimpArgs false
namespace Go.Proofs.YtjedjkjhodgidaaGreatDoor
namespace dsk
set_option maxRecDepth 100000
open Go.ChangeShapes Go.WideShapes Go.ChangeAt Go.RowKit
open rows
open sec
theorem b3h:Elem 143 149 38 96 (.agg (evC (0,⟨0,zero32,0,0,0⟩,[]) (.slice none 0 0)).toArray):=⟨Tryz.underlying143,by kernel_rfl,by decide,by decide,by decide⟩
theorem elem_wrs:Elem 23 78 36 64 (.agg (Wr.c ⟨0,zero32,0,0,0⟩).toArray):=⟨Tryz.underlying23,by kernel_rfl,by decide,by decide,by decide⟩
theorem b3e:∀(l:List Value) (k:Nat) (A:Array Value),A.size=k+l.length→((l.zipIdx k).foldl (fun cs x=>cs.setIfInBounds (0+x.2) x.1) A).toList=A.toList.take k++l
 | [],k,A,h=>by
  simp only[List.zipIdx_nil,List.foldl_nil,List.append_nil]
  rw[List.take_of_length_le]
  simp at h ⊢;omega
 | c::t,k,A,h=>by
  rw[List.zipIdx_cons,List.foldl_cons,b3e t (k+1) _ (by simp at h ⊢;omega)]
  have hk:k<A.toList.length:=by simp at h ⊢;omega
  simp only[Nat.zero_add,Array.toList_setIfInBounds]
  rw[List.take_succ_eq_append_getElem (by simpa using hk),List.take_set_of_le (Nat.le_refl k)]
  simp
theorem b9b(sz:Nat)(cs:List Value)(v:Value)(hv:v.cells=cs.toArray)(hs:cs.length=sz)(old:Array Value)(ho:old.size=sz):Instr.fill (fun i=>some (i * sz,sz)) old [(0,v)]=some cs.toArray:=by
 unfold Instr.fill
 simp only[hv,Nat.zero_mul,Nat.zero_add,List.size_toArray,hs,ho,ne_eq,not_true_eq_false,decide_false,Bool.false_or,Nat.lt_irrefl,gt_iff_lt,Bool.false_eq_true,if_false]
 unfold Instr.fill
 congr 1
 apply Array.ext'
 have:=b3e cs 0 old (by rw[ho,hs];omega)
 simpa using this
theorem a4v{t e:TypeId}{sz by_:Nat}{z:Value}(E:Elem t e sz by_ z)(hsz:sz≤1000){o:Oper}{a:Act}{w:World}{K:Act→World→Prop}{Q:Exit→Act→World→Prop}(x:Operand)(ho:o.op = .buildSlice t 1 #[(0,x)])
  (cs:List Value) (hx:(a.eval x).cells=cs.toArray) (hs:cs.length=sz) (h:K (a.put o.dst (.slice (some ⟨w.heap.size,0,none⟩) 1 1)) (w.alloc (.cells cs.toArray e))):o.wp Tryz.prog a w K Q:=by
 obtain⟨ie,hi,hz0,hz1,hz2⟩:=info_parts E.info
 have:=E.pos
 refine wp_buildSlice t e 1 #[(0,x)] ho cs.toArray ie _ E.und hi hz0 (by rw[hz1];omega) (by rw[hz1];omega) ?_ h
 rw[hz1]
 simp only[List.map_toArray,List.map_cons,List.map_nil]
 exact b9b sz cs _ hx hs _ (by simp)
theorem a1k{t e:TypeId}{sz by_:Nat}{z:Value}(E:Elem t e sz by_ z)(hsz:sz≤1000){ops:Array Oper}{rest:List Oper}{o:Oper}{a:Act}{w:World}{Q:Exit→Act→World→Prop}(hgd:o.guard=none)(x:Operand)(ho:o.op = .buildSlice t 1 #[(0,x)])
  (cs:List Value) (hx:(a.eval x).cells=cs.toArray) (hs:cs.length=sz) (h:wpList Tryz.prog ops Q rest (a.put o.dst (.slice (some ⟨w.heap.size,0,none⟩) 1 1)) (w.alloc (.cells cs.toArray e))):wpList Tryz.prog ops Q (o::rest) a w :=
 wpList_plain hgd fun K hK=>a4v E hsz x ho cs hx hs (hK _ _ h)
theorem a6p{t e:TypeId}{sz by_:Nat}{z:Value}(E:Elem t e sz by_ z)(hsz:sz≤1000){ops:Array Oper}{o:Oper}{a:Act}{w:World}{K:Act→World→Prop}{Q:Exit→Act→World→Prop}{F:Prop}(hw:Region.wanted o (yielded ops a.tmps)=true)(x:Operand)(ho:o.op = .buildSlice t 1 #[(0,x)])
  (cs:List Value) (hx:(a.eval x).cells=cs.toArray) (hs:cs.length=sz) (h:K (a.put o.dst (.slice (some ⟨w.heap.size,0,none⟩) 1 1)) (w.alloc (.cells cs.toArray e))):if Region.wanted o (yielded ops a.tmps)=true then Oper.wp Tryz.prog o a w K Q else F:=by
 rw[if_pos hw]
 exact a4v E hsz x ho cs hx hs h
theorem a1r(w:World)(e:TypeId)(sz:Nat)(cs:List Value)(h:cs.length=sz):Rd (w.alloc (.cells cs.toArray e)) sz (.slice (some ⟨w.heap.size,0,none⟩) 1 1) 1 cs:=by
 have:=b2s w e sz cs.toArray (by simpa using h)
 simpa using this
theorem inS_nil(S:Nat→Prop):InS S (.slice none 0 0):=fun a n c h _=>by cases h
def grow(S:Nat→Prop)(w w':World):Nat→Prop:=fun b=>S b∨(w.heap.size≤b∧b<w'.heap.size)
end dsk
namespace dsk
set_option maxRecDepth 100000
open Go.ChangeShapes Go.WideShapes Go.ChangeAt Go.RowKit
open rows
open sec
def w0:Wr:=⟨0,zero32,0,0,0⟩
structure St.few (st:St):Prop where
 ss:Secs st.safe
 ws:∀x∈st.wait,Sec x.s
 es:∀e∈st.log,Sec e.2.1.s
 ts:∀e∈st.log,e.2.2.length≤1000
 wn:st.wait.length≤900
 ln:st.log.length≤900
 bn:st.bad.length≤900
 ep0:0≤st.ep
 ep1:st.ep≤900
 as0:0≤st.asked
 as1:st.asked≤900
def asks(st:St):Bool:=decide (st.asked∈st.bad)
def St.asked1(st:St):St:={ st with asked:=st.asked+1 }
theorem b1b(x:Wr):∀u∈x.c,u.oneCell'=true:=by
 intro u hu
 rcases List.mem_cons.1 hu with rfl|hu
 ·rfl
 ·rcases List.mem_append.1 hu with hu|hu
  ·exact a2t .u8 _ u hu
  ·simp only[List.mem_cons,List.not_mem_nil,or_false] at hu
   rcases hu with rfl|rfl|rfl<;>rfl
theorem b9c(e:Ev)(v:Value)(hv:v.oneCell'=true):∀u∈evC e v,u.oneCell'=true:=by
 intro u hu
 rcases List.mem_cons.1 hu with rfl|hu
 ·rfl
 ·rcases List.mem_append.1 hu with hu|hu
  ·exact b1b _ u hu
  ·rw[List.mem_singleton.1 hu];exact hv
theorem b3g(w:World)(a:Addr)(v:Value):(w.setCell a v).heap.size=w.heap.size:=by simp[World.setCell]
theorem size_alloc(w:World)(o:Obj):(w.alloc o).heap.size=w.heap.size+1:=by simp
end dsk
end Go.Proofs.YtjedjkjhodgidaaGreatDoor
