/- What ViewBack wants, part 11. -/
import Derived.Test.YtjedjkjhodgidaaGreatDoorViewBackA
import Derived.Test.YtjedjkjhodgidaaGreatDoorViewBackB
import Derived.Test.YtjedjkjhodgidaaGreatDoorViewBackJ
import Derived.Deep.WholeRow
set_option linter.unusedVariables false
set_option linter.unusedSimpArgs false
namespace Go.Proofs.YtjedjkjhodgidaaGreatDoor
namespace dsk
set_option maxRecDepth 100000
open Go.ChangeShapes Go.WideShapes Go.ChangeAt Go.RowKit
open rows
open sec
abbrev agg(s:List Int):Value := .agg (u8s s).toArray
def At(w:World)(g:Nat)(s:List Int):Prop:=w.heap[g]? = some (.cells (u8s s).toArray 74)
theorem At.later{w w':World}{g:Nat}{s:List Int}(h:At w g s)(k:Below w.heap.size w w'):At w' g s:=(k.block g (Array.getElem?_eq_some_iff.1 h).1).trans h
theorem At.alloc{w:World}{g:Nat}{s:List Int}(h:At w g s)(o:Obj):At (w.alloc o) g s:=h.later (a0b (Below.refl _ _) o)
theorem at_new(w:World)(s:List Int):At (w.alloc (.cells (u8s s).toArray 74)) w.heap.size s:=heap_alloc_new _ _
theorem At.range{w:World}{g:Nat}{s:List Int}(h:At w g s):w.rangeAt g 0 (u8s s):=by
 have:=World.rangeAt_of_block h 0 (u8s s).toArray.size
 simpa using this
theorem a5q{ops:Array Oper}{rest:List Oper}{o:Oper}{a:Act}{w:World}{Q:Exit→Act→World→Prop}(hgd:o.guard=none)(x:Operand)(ho:o.op = .load 74 x)
  (g:Nat) (hx:a.eval x = .pointer (some ⟨g,0,none⟩)) (s:List Int) (hs:s.length=32) (hg:At w g s)
  (h:wpList Tryz.prog ops Q rest (a.put o.dst (agg s)) w):wpList Tryz.prog ops Q (o::rest) a w :=
 wpList_load_row hgd 74 x ho g hx 74 _ _ _ hg Tryz.underlying74 rfl (by rw[a0m];simp[u8s,hs]) h
theorem a1b{ops:Array Oper}{rest:List Oper}{o:Oper}{a:Act}{w:World}{Q:Exit→Act→World→Prop}(hw:Region.wanted o (yielded ops a.tmps)=true)(x:Operand)(ho:o.op = .load 74 x)
  (g:Nat) (hx:a.eval x = .pointer (some ⟨g,0,none⟩)) (s:List Int) (hs:s.length=32) (hg:At w g s)
  (h:wpList Tryz.prog ops Q rest (a.put o.dst (agg s)) w):wpList Tryz.prog ops Q (o::rest) a w :=
 wpList_step fun K hK=>by
  rw[if_pos hw]
  exact wp_load_row 74 x ho g hx 74 _ _ _ hg Tryz.underlying74 rfl (by rw[a0m];simp[u8s,hs]) (hK _ _ h)
theorem a8r{w:World}{g k:Nat}{s:List Int}{cs:Array Value}(h:At w k s)(hk:k≠g):At (w.setRow g cs) k s:=by
 unfold At at *
 rw[setRow_other w g k cs hk]
 exact h
theorem a0g{ops:Array Oper}{rest:List Oper}{o:Oper}{a:Act}{w:World}{Q:Exit→Act→World→Prop}(hgd:o.guard=none)(x y:Operand)(ho:o.op = .store 74 x y)(hd:o.dst=none)
  (g:Nat) (s old:List Int) (hx:a.eval x = .pointer (some ⟨g,0,none⟩)) (hy:a.eval y=agg s) (hs:s.length=32) (hold:old.length=32) (hg:At w g old)
  (h:∀w',At w' g s→Below g w w'→(∀k t,k≠g→At w k t→At w' k t)→wpList Tryz.prog ops Q rest a w'):wpList Tryz.prog ops Q (o::rest) a w:=by
 have hl:(u8s s).toArray.size=32:=by simp[u8s,hs]
 refine wpList_store_row hgd 74 x y ho g (u8s s).toArray hx hy 74 _ hg (by rw[a0m,hl]) (by simp[u8s,hs,hold]) (by simp only[List.all_toArray];exact List.all_eq_true.2 (a2t .u8 s)) ?_
 rw[hd]
 exact h _ (setRow_heap w g _ _ _ _ hg) ((Below.refl g w).trans ⟨rfl,rfl,rfl,by simp[World.setRow],fun k hk=>setRow_other w g k _ (by omega)⟩) (fun k t hk ht=>a8r ht hk)
theorem b1d{fn:Func}{p:Tmp}{R:Ending→World→Prop}{a:Act}{w:World}(h:fn.results = #[.cell p 74])(g:Nat)(s:List Int)(hp:a.tmps.getD p undef = .pointer (some ⟨g,0,none⟩))(hs:s.length=32)(hg:At w g s)
  (hd:a.defers=[]) (hR:R (.returned (agg s)) w):bodyPost Tryz.prog fn R .ret a w :=
 bodyPost_ret (results_cell_row h a.tmps w g _ _ _ _ hp hg Tryz.underlying74 rfl (by rw[a0m];simp[u8s,hs])) hd hR
theorem a1m{fn:Func}{p q:Tmp}{R:Ending→World→Prop}{a:Act}{w:World}(h:fn.results = #[.cell p 74,.tmp q])(g:Nat)(s:List Int)(v:Value)(hp:a.tmps.getD p undef = .pointer (some ⟨g,0,none⟩))(hq:a.tmps.getD q undef=v)(hs:s.length=32)(hg:At w g s)
  (hd:a.defers=[]) (hR:R (.returned (.tuple #[agg s,v])) w):bodyPost Tryz.prog fn R .ret a w:=by
 refine bodyPost_ret (v := .tuple #[agg s,v]) ?_ hd hR
 have hp':a.tmps[p]?.getD undef = .pointer (some ⟨g,0,none⟩):=by simpa using hp
 have hq':a.tmps[q]?.getD undef=v:=by simpa using hq
 have hl:=run_loadVar_row (P:=Tryz.prog) w g _ 74 _ _ _ hg Tryz.underlying74 rfl (by rw[a0m];simp[u8s,hs])
 simp[results,h,hp',hq',asAddr,hl]
theorem b1w{ops:Array Oper}{rest:List Oper}{o:Oper}{a:Act}{w:World}{Q:Exit→Act→World→Prop}(hgd:o.guard=none)(x:Operand)(ho:o.op = .load 74 x)
  (b off:Nat) (hx:a.eval x = .pointer (some ⟨b,off,none⟩)) (s:List Int) (hs:s.length=32) (hg:w.rangeAt b off (u8s s))
  (h:wpList Tryz.prog ops Q rest (a.put o.dst (agg s)) w):wpList Tryz.prog ops Q (o::rest) a w :=
 wpList_load_mid hgd 74 x ho b off hx (u8s s) _ hg Tryz.underlying74 rfl (by rw[a0m];simp[u8s,hs]) h
theorem a0u:(#[Value.int IntKind.u8 0,Value.int IntKind.u8 0,Value.int IntKind.u8 0,Value.int IntKind.u8 0,Value.int IntKind.u8 0,Value.int IntKind.u8 0,Value.int IntKind.u8 0,Value.int IntKind.u8 0,Value.int IntKind.u8 0,Value.int IntKind.u8 0,Value.int IntKind.u8 0,Value.int IntKind.u8 0,Value.int IntKind.u8 0,Value.int IntKind.u8 0,Value.int IntKind.u8 0,Value.int IntKind.u8 0,Value.int IntKind.u8 0,Value.int IntKind.u8 0,Value.int IntKind.u8 0,Value.int IntKind.u8 0,Value.int IntKind.u8 0,Value.int IntKind.u8 0,Value.int IntKind.u8 0,Value.int IntKind.u8 0,Value.int IntKind.u8 0,Value.int IntKind.u8 0,Value.int IntKind.u8 0,Value.int IntKind.u8 0,Value.int IntKind.u8 0,Value.int IntKind.u8 0,Value.int IntKind.u8 0,Value.int IntKind.u8 0]:Array Value)=(u8s zero32).toArray:=by kernel_rfl
theorem a1c(w:World):At (w.alloc (.cells #[Value.int IntKind.u8 0,Value.int IntKind.u8 0,Value.int IntKind.u8 0,Value.int IntKind.u8 0,Value.int IntKind.u8 0,Value.int IntKind.u8 0,Value.int IntKind.u8 0,Value.int IntKind.u8 0,Value.int IntKind.u8 0,Value.int IntKind.u8 0,Value.int IntKind.u8 0,Value.int IntKind.u8 0,Value.int IntKind.u8 0,Value.int IntKind.u8 0,Value.int IntKind.u8 0,Value.int IntKind.u8 0,Value.int IntKind.u8 0,Value.int IntKind.u8 0,Value.int IntKind.u8 0,Value.int IntKind.u8 0,Value.int IntKind.u8 0,Value.int IntKind.u8 0,Value.int IntKind.u8 0,Value.int IntKind.u8 0,Value.int IntKind.u8 0,Value.int IntKind.u8 0,Value.int IntKind.u8 0,Value.int IntKind.u8 0,Value.int IntKind.u8 0,Value.int IntKind.u8 0,Value.int IntKind.u8 0,Value.int IntKind.u8 0] 74)) w.heap.size zero32:=by
 rw[a0u]
 exact at_new w zero32
end dsk
namespace dsk
set_option maxRecDepth 100000
open Go.ChangeShapes Go.WideShapes Go.ChangeAt Go.RowKit
open rows
open sec
def fail(st:St)(zs:List Int):St:={ st with bad:=zs,asked:=0 }
end dsk
namespace dsk
set_option maxRecDepth 100000
open Go.ChangeShapes Go.WideShapes Go.ChangeAt Go.RowKit
open rows
open sec
def lastOf(i:Int)(s:List Int)(ws:List Wr):List Int:=ws.foldl (fun s x=>if x.pos=i then x.s else s) s
def readOf(st:St)(i:Nat):List Int:=lastOf i (st.safe.getD i []) st.wait
theorem b8x{w:World}{b o:Nat}{x:Wr}(h:w.rangeAt b o x.c):w.cell? ⟨b,o,none⟩=some (.int .i64 x.pos)∧w.rangeAt b (o+1) (u8s x.s):=by
 refine⟨by have:=h 0 _ rfl;simpa using this,?_⟩
 exact b4o (b6t (k:=1) h)
end dsk
namespace dsk
set_option maxRecDepth 100000
open Go.ChangeShapes Go.WideShapes Go.ChangeAt Go.RowKit
open rows
open sec
theorem fold_at(off:Nat):∀(l:List Value) (k:Nat) (A:Array Value),off+k+l.length≤A.size→((l.zipIdx k).foldl (fun cs x=>cs.setIfInBounds (off+x.2) x.1) A).toList=A.toList.take (off+k)++l++A.toList.drop (off+k+l.length)
 | [],k,A,h=>by simp
 | c::t,k,A,h=>by
  simp only[List.length_cons] at h
  rw[List.zipIdx_cons,List.foldl_cons,fold_at off t (k+1) _ (by simp;omega)]
  have hk:off+k<A.toList.length:=by simp;omega
  simp only[Array.toList_setIfInBounds]
  rw[show off+(k+1)=(off+k)+1 by omega,List.take_succ_eq_append_getElem (by simpa using hk),List.take_set_of_le (Nat.le_refl _),List.drop_set_of_lt (by omega),List.length_cons,show off+k+1+t.length=off+k+(t.length+1) by omega]
  simp
theorem a2e(place:Nat→Option (Nat×Nat))(old:List Value)(i off sz:Nat)(v:Value)(cs:List Value)(rest:List (Nat×Value))(hp:place i=some (off,sz))(hv:v.cells=cs.toArray)(hs:cs.length=sz)(hf:off+sz≤old.length) :
  Instr.fill place old.toArray ((i,v)::rest)=Instr.fill place (old.take off++cs++old.drop (off+sz)).toArray rest:=by
 have h:=fold_at off cs 0 old.toArray (by simp;omega)
 rw[Nat.add_zero] at h
 rw[Instr.fill,hp]
 simp only[hv,List.size_toArray,hs,ne_eq,not_true_eq_false,decide_false,Bool.false_or,gt_iff_lt,show ¬(old.length<off+sz) by omega,Bool.false_eq_true,if_false]
 congr 1
 apply Array.ext'
 have e:cs.toArray.zipIdx.foldl (fun cs x=>cs.setIfInBounds (off+x.2) x.1) old.toArray=(cs.zipIdx 0).foldl (fun cs x=>cs.setIfInBounds (off+x.2) x.1) old.toArray:=by
  simp
 rw[← hs]
 simpa using h
theorem b2w(T:TypeId)(fs:Array Field)(places:List (Nat×Nat))(z:List Value)(hu:Tryz.prog.underlying T=some (.struct fs))(hz:(Tryz.prog.info? T).map (·.zero)=some (some (.agg z.toArray)))(hp:fs.toList.mapM (fun f=>(Tryz.prog.info? f.type).map fun i=>(f.offset,i.size))=some places)(parts:List (Nat×Value)) :
  Tryz.prog.built T parts=Instr.fill (places.toArray[·]?) z.toArray parts:=by
 unfold Program.built
 cases hq:Tryz.prog.info? T with
 | none=>simp[hq] at hz
 | some it =>
  have h0:it.zero=some (.agg z.toArray):=by simpa [hq] using hz
  simp only[hu,h0,hp]
  rfl
theorem b7r:(Tryz.prog.info? 78).map (·.zero)=some (some (.agg (w0.c).toArray)):=by kernel_rfl
theorem zero_ev:(Tryz.prog.info? 149).map (·.zero)=some (some (.agg (evC (0,w0,[]) (.slice none 0 0)).toArray)):=by kernel_rfl
theorem und_ev:Tryz.prog.underlying 149=some (.struct (Tryz.prog.fieldsOf 149)):=by kernel_rfl
theorem b7i:(Tryz.prog.fieldsOf 78).toList.mapM (fun f=>(Tryz.prog.info? f.type).map fun i=>(f.offset,i.size))=some [(0,1),(1,32),(33,2),(35,1)]:=by kernel_rfl
theorem b5j:(Tryz.prog.fieldsOf 149).toList.mapM (fun f=>(Tryz.prog.info? f.type).map fun i=>(f.offset,i.size))=some [(0,1),(1,36),(37,1)]:=by kernel_rfl
theorem c0g(x:Wr)(h:Sec x.s):Tryz.prog.built 78 [(0,.int .i64 x.pos),(1,.agg (u8s x.s).toArray),(2,.agg #[.int .i64 x.kind,.int .i64 x.id]),(3,.int .i64 x.ep)]=some x.c.toArray:=by
 have hl:(u8s x.s).length=32:=by simp[u8s,h.1]
 have hz:(u8s zero32).length=32:=by simp[u8s,zero32]
 rw[b2w _ _ _ _ c0v b7r b7i]
 rw[a2e _ _ 0 0 1 _ [.int .i64 x.pos] _ rfl rfl rfl (by rw[Wr.c_len a1n];omega)]
 have e0:(w0.c).take 0++[Value.int .i64 x.pos]++(w0.c).drop (0+1) = .int .i64 x.pos::(u8s zero32++[.int .i64 0,.int .i64 0,.int .i64 0]):=rfl
 rw[e0,a2e _ _ 1 1 32 _ (u8s x.s) _ rfl rfl hl (by simp[hz])]
 have e1:(Value.int .i64 x.pos::(u8s zero32++[Value.int .i64 0,.int .i64 0,.int .i64 0])).take 1++u8s x.s++(Value.int .i64 x.pos::(u8s zero32++[Value.int .i64 0,.int .i64 0,.int .i64 0])).drop (1+32) = .int .i64 x.pos::(u8s x.s++[.int .i64 0,.int .i64 0,.int .i64 0]):=by
  rw[show 1+32=32+1 by omega,List.drop_succ_cons,List.drop_left' hz];rfl
 rw[e1,a2e _ _ 2 33 2 _ [.int .i64 x.kind,.int .i64 x.id] _ rfl rfl rfl (by simp[hl])]
 have e2:(Value.int .i64 x.pos::(u8s x.s++[Value.int .i64 0,.int .i64 0,.int .i64 0])).take 33++[Value.int .i64 x.kind,.int .i64 x.id]++(Value.int .i64 x.pos::(u8s x.s++[Value.int .i64 0,.int .i64 0,.int .i64 0])).drop (33+2) = .int .i64 x.pos::(u8s x.s++[.int .i64 x.kind,.int .i64 x.id,.int .i64 0]):=by
  rw[List.take_succ_cons,List.take_left' hl,show 33+2=(32+2)+1 by omega,List.drop_succ_cons,← List.drop_drop,List.drop_left' hl]
  simp
 rw[e2,a2e _ _ 3 35 1 _ [.int .i64 x.ep] _ rfl rfl rfl (by simp[hl])]
 have e3:(Value.int .i64 x.pos::(u8s x.s++[Value.int .i64 x.kind,.int .i64 x.id,.int .i64 0])).take 35++[Value.int .i64 x.ep]++(Value.int .i64 x.pos::(u8s x.s++[Value.int .i64 x.kind,.int .i64 x.id,.int .i64 0])).drop (35+1)=x.c:=by
  rw[List.take_succ_cons,show 34=32+2 by omega,List.take_add,List.take_left' hl,List.drop_left' hl,show 35+1=(32+3)+1 by omega,List.drop_succ_cons,← List.drop_drop,List.drop_left' hl]
  simp[Wr.c]
 rw[e3]
 rfl
theorem b6d(x:Wr)(h:Sec x.s):Tryz.prog.built 149 [(0,.int .i64 1),(1,.agg x.c.toArray)]=some (evC (1,x,[]) (.slice none 0 0)).toArray:=by
 have hl:=Wr.c_len h
 have hz:(w0.c).length=36:=Wr.c_len a1n
 rw[b2w _ _ _ _ und_ev zero_ev b5j]
 rw[a2e _ _ 0 0 1 _ [.int .i64 1] _ rfl rfl rfl (by rw[b6b (by exact a1n)];omega)]
 have e0:(evC (0,w0,[]) (.slice none 0 0)).take 0++[Value.int .i64 1]++(evC (0,w0,[]) (.slice none 0 0)).drop (0+1) = .int .i64 1::(w0.c++[.slice none 0 0]):=rfl
 rw[e0,a2e _ _ 1 1 36 _ x.c _ rfl rfl hl (by simp[hz])]
 have e1:(Value.int .i64 1::(w0.c++[Value.slice none 0 0])).take 1++x.c++(Value.int .i64 1::(w0.c++[Value.slice none 0 0])).drop (1+36)=evC (1,x,[]) (.slice none 0 0):=by
  rw[show 1+36=36+1 by omega,List.drop_succ_cons,List.drop_left' hz]
  simp[evC]
 rw[e1]
 rfl
theorem a4x{ops:Array Oper}{S:World→Prop}{op:Oper}{a:Act}(hw:Region.wanted op (yielded ops a.tmps)=true)(T:TypeId)(parts:Array (Nat×Operand))(ho:op.op = .build T parts)(vs:List (Nat×Value))(hx:(parts.toList.map fun x=>(x.1,a.eval x.2))=vs)(cells:Array Value)(hf:Tryz.prog.built T vs=some cells):YieldsIf Tryz.prog ops S op (.agg cells) a :=
 .inl ⟨hw,fun w _=>by
  have hr:=run_build (P:=Tryz.prog) w T (parts.map fun x=>(x.1,a.eval x.2)) cells (by rw[Array.toList_map,hx];exact hf)
  unfold execOp
  simp only[ho,Sem.run_bind,hr,Result.andThen_ok]
  rfl⟩
end dsk
namespace dsk
set_option maxRecDepth 100000
open Go.ChangeShapes Go.WideShapes Go.ChangeAt Go.RowKit
open rows
open sec
def writeR(st:St)(i:Int)(s:List Int)(k id:Int):Int×St :=
 if 0≤i∧i<(st.safe.length:Int) then
  if asks st=true then (3,st.asked1) else (0,{ st with asked:=st.asked+1,wait:=st.wait++[⟨i,s,k,id,st.ep⟩],log:=st.log++[(1,⟨i,s,k,id,st.ep⟩,[])] })
 else (1,st.asked1)
end dsk
namespace dsk
set_option maxRecDepth 100000
open Go.ChangeShapes Go.WideShapes Go.ChangeAt Go.RowKit
open rows
open sec
theorem b2m{t e:TypeId}{sz by_:Nat}{z:Value}(E:Elem t e sz by_ z)(hsz:sz≤1000){ops:Array Oper}{o:Oper}{a:Act}{w:World}{K:Act→World→Prop}{Q:Exit→Act→World→Prop}{F:Prop}(hw:Region.wanted o (yielded ops a.tmps)=true)(x:Operand)(ho:o.op = .buildSlice t 1 #[(0,x)])
  (cs:List Value) (hx:(a.eval x).cells=cs.toArray) (hs:cs.length=sz) (h:∀b w',w.heap.size≤b∧b<w'.heap.size→Rd w' sz (.slice (some ⟨b,0,none⟩) 1 1) 1 cs→Below w.heap.size w w'→K (a.put o.dst (.slice (some ⟨b,0,none⟩) 1 1)) w'):if Region.wanted o (yielded ops a.tmps)=true then Oper.wp Tryz.prog o a w K Q else F :=
 a6p E hsz hw x ho cs hx hs (h _ _ ⟨Nat.le_refl _,by simp⟩ (a1r w e sz cs hs) (a0b (Below.refl _ _) _))
theorem a6y{T:TypeId}{z:List Value}(hz:(Tryz.prog.info? T).map (·.zero)=some (some (.agg z.toArray))){ops:Array Oper}{o:Oper}{a:Act}{w:World}{K:Act→World→Prop}{Q:Exit→Act→World→Prop}{F:Prop}(hw:Region.wanted o (yielded ops a.tmps)=true)
  (ho:o.op = .alloc T) (h:∀b w',w.heap.size≤b→w'.heap[b]? = some (.cells z.toArray T (0,0))→Below w.heap.size w w'→K (a.put o.dst (.pointer (some ⟨b,0,none⟩))) w'):if Region.wanted o (yielded ops a.tmps)=true then Oper.wp Tryz.prog o a w K Q else F:=by
 rw[if_pos hw]
 have hzr:(zeroValue T).run Tryz.prog w = .ok (.agg z.toArray) w:=by
  cases hq:Tryz.prog.info? T with
  | none=>simp[hq] at hz
  | some it =>
   have h0:it.zero=some (.agg z.toArray):=by simpa [hq] using hz
   simp[zeroValue,typeInfo,hq,h0]
 unfold Oper.wp execOp
 simp[ho,hzr,Instr.alloc,newVar,newRow,Value.cells]
 exact h _ _ (Nat.le_refl _) (heap_alloc_new _ _) (a0b (Below.refl _ _) _)
theorem a0x{w w':World}{B:Nat}{e:TypeId}{sz n:Nat}{v:Value}{cs:List Value}(h:Own w B e sz v n cs)(hb:Below w.heap.size w w'):Own w' B e sz v n cs:=by
 refine⟨h.1,?_⟩
 rcases h.2 with h2|⟨g,cap,cur,hv,h3,h4,h5⟩
 ·exact Or.inl h2
 ·exact Or.inr ⟨g,cap,cur,hv,h3,(hb.block g (Array.getElem?_eq_some_iff.1 h4).1).trans h4,h5⟩
end dsk
end Go.Proofs.YtjedjkjhodgidaaGreatDoor
