/- What ViewBack wants, part 12. -/
import Derived.Test.YtjedjkjhodgidaaGreatDoorViewBackB
import Derived.Test.YtjedjkjhodgidaaGreatDoorViewBackD
import Derived.Test.YtjedjkjhodgidaaGreatDoorViewBackK
import Derived.Deep.Cut
import Derived.Maps.OwnSet
set_option linter.unusedVariables false
set_option linter.unusedSimpArgs false
namespace Go.Proofs.YtjedjkjhodgidaaGreatDoor
namespace dsk
set_option maxRecDepth 100000
open Go.ChangeShapes Go.WideShapes Go.ChangeAt Go.RowKit
open rows
open sec
theorem At.touch{S:Nat→Prop}{w w':World}{g:Nat}{s:List Int}(h:At w g s)(ht:Touch S w w')(hs:¬S g):At w' g s:=(ht.block g (Array.getElem?_eq_some_iff.1 h).1 hs).trans h
theorem a1j{S:Nat→Prop}{w w':World}{g:Nat}{o:Obj}(h:w.heap[g]? = some o)(ht:Touch S w w')(hs:¬S g):w'.heap[g]? = some o:=(ht.block g (Array.getElem?_eq_some_iff.1 h).1 hs).trans h
theorem b7q{w:World}{g:Nat}{k i:Int}(h:w.heap[g]? = some (.cells #[.int .i64 k,.int .i64 i] 76 (0,0))):w.rangeAt g 0 [.int .i64 k,.int .i64 i]:=by
 have:=World.rangeAt_of_block h 0 2
 simpa using this
theorem a7y:(Tryz.prog.info? 76).map (·.size)=some 2:=by kernel_rfl
theorem b2z{ops:Array Oper}{S:World→Prop}{op:Oper}{a:Act}(hw:Region.wanted op (yielded ops a.tmps)=true)(x:Operand)(ho:op.op = .load 76 x)
  (b o:Nat) (hx:a.eval x = .pointer (some ⟨b,o,none⟩)) (k i:Int) (hS:∀w,S w→w.rangeAt b o [.int .i64 k,.int .i64 i]):YieldsIf Tryz.prog ops S op (.agg #[.int .i64 k,.int .i64 i]) a :=
 yieldsIf_load_mid hw _ x ho b o hx [.int .i64 k,.int .i64 i] _ hS und_tag rfl (by rw[a7y];rfl)
def AtW(w:World)(g:Nat)(x:Wr):Prop:=w.heap[g]? = some (.cells x.c.toArray 78 (0,0))
theorem AtW.range{w:World}{g:Nat}{x:Wr}(h:AtW w g x):w.rangeAt g 0 x.c:=by
 have:=World.rangeAt_of_block h 0 x.c.toArray.size
 simpa using this
theorem a8b{w:World}{ops:Array Oper}{o:Oper}{a:Act}{K:Act→World→Prop}{Q:Exit→Act→World→Prop}{F:Prop}(hw:Region.wanted o (yielded ops a.tmps)=true)(x y:Operand)(ho:o.op = .store 78 x y)
  (g:Nat) (hx:a.eval x = .pointer (some ⟨g,0,none⟩)) (z old:Wr) (hy:a.eval y = .agg z.c.toArray) (hs:Sec z.s) (hold:Sec old.s) (hg:AtW w g old)
  (h:∀w',AtW w' g z→Below g w w'→K (a.put o.dst undef) w'):if Region.wanted o (yielded ops a.tmps)=true then Oper.wp Tryz.prog o a w K Q else F:=by
 rw[if_pos hw]
 refine wp_store_row 78 x y ho g z.c.toArray hx hy 78 _ hg (by rw[b5g];simp[Wr.c_len hs]) (by simp[Wr.c_len hs,Wr.c_len hold]) (by simp only[List.all_toArray];exact List.all_eq_true.2 (b1b z)) ?_
 exact h _ (setRow_heap w g _ _ _ _ hg) ((Below.refl g w).trans ⟨rfl,rfl,rfl,by simp[World.setRow],fun k hk=>setRow_other w g k _ (by omega)⟩)
end dsk
namespace dsk
set_option maxRecDepth 100000
open Go.ChangeShapes Go.WideShapes Go.ChangeAt Go.RowKit
open rows
open sec
def outStep(made:Wr→Bool)(o:List (List Int))(x:Wr):List (List Int):=if made x=true then o.set x.pos.toNat x.s else o
def outOf(made:Wr→Bool)(ws:List Wr)(safe:List (List Int)):List (List Int):=ws.foldl (outStep made) safe
theorem a9d(made:Wr→Bool):∀(ws:List Wr) (safe:List (List Int)),(outOf made ws safe).length=safe.length
 | [],safe=>rfl
 | x::t,safe=>by
  rw[outOf,List.foldl_cons]
  have:=a9d made t (outStep made safe x)
  rw[outOf] at this
  rw[this,outStep]
  split<;>simp
theorem a7k(made:Wr→Bool):∀(ws:List Wr) (safe:List (List Int)),Secs safe→(∀x∈ws,Sec x.s)→Secs (outOf made ws safe)
 | [],safe,h,_=>h
 | x::t,safe,h,hw=>by
  rw[outOf,List.foldl_cons]
  refine a7k made t _ ?_ fun y hy=>hw y (List.mem_cons_of_mem _ hy)
  rw[outStep]
  split
  ·exact a2v h (hw x (List.mem_cons_self ..)) _
  ·exact h
theorem a5f{w:World}{b o:Nat}{x:Wr}(hs:Sec x.s)(h:w.rangeAt b o x.c):w.cell? ⟨b,o,none⟩=some (.int .i64 x.pos)∧w.rangeAt b (o+1) (u8s x.s)∧w.cell? ⟨b,o+33,none⟩=some (.int .i64 x.kind)∧w.cell? ⟨b,o+34,none⟩=some (.int .i64 x.id)∧w.cell? ⟨b,o+35,none⟩=some (.int .i64 x.ep):=by
 have hl:(u8s x.s).length=32:=by simp[u8s,hs.1]
 obtain⟨h0,h1⟩:=b8x h
 refine⟨h0,h1,h 33 _ ?_,h 34 _ ?_,h 35 _ ?_⟩ <;>
 ·rw[Wr.c,List.getElem?_cons_succ,List.getElem?_append_right (by omega),hl];rfl
theorem b8j{w:World}{B g n c:Nat}{ss:List (List Int)}(h:Own w B 74 32 (.slice (some ⟨g,0,none⟩) n c) n (cellsOf ss))(hs:Secs ss){i:Nat}(hi:i<ss.length){s:List Int}(hl:Sec s) :
  ∃w',(storeVar 74 ⟨g,i * 32,none⟩ (.agg (u8s s).toArray)).run Tryz.prog w = .ok () w'∧Own w' B 74 32 (.slice (some ⟨g,0,none⟩) n c) n (cellsOf (ss.set i s))∧Touch (· = g) w w'∧B≤g:=by
 obtain⟨hlen,h2⟩:=h
 rcases h2 with⟨h2,_⟩|⟨g',cap,cur,h1,h2,h3,h4,h5,h6,h7⟩
 ·cases h2
 ·cases h1
  have hcl:=a0p hs
  have hsn:ss.length=n:=by omega
  have hus:=a2p s
  have hsz:i * 32+32≤cur.size:=by rw[h6];omega
  have h8:=run_storeCells_at (P:=Tryz.prog) g (i * 32) 74 (u8s s) 0 cur w h3 (by rw[hus,hl.1];omega) (a2t .u8 s)
  rw[Nat.add_zero,hus,hl.1] at h8
  have hput:=a5t u8s 32 ss i s (fun y hy=>by rw[a2p,(hs y hy).1]) (by rw[a2p,hl.1]) hi
  rw[← a1s,← a1s] at hput
  have hcut:cur.toList=cellsOf ss++cur.toList.drop (n * 32):=by rw[← h7,List.take_append_drop]
  have hnew:(cur.toList.take (i * 32)++u8s s++cur.toList.drop (i * 32+32))=cellsOf (ss.set i s)++cur.toList.drop (n * 32):=by
   rw[← hput]
   conv=>lhs;rw[hcut]
   rw[List.take_append_of_le_length (by rw[hcl];omega),List.drop_append_of_le_length (by rw[hcl];omega)]
   simp[List.append_assoc]
  refine⟨w.setRow g (cellsOf (ss.set i s)++cur.toList.drop (n * 32)).toArray,?_,⟨by rw[a0p (a2v hs hl i)];simp;omega,Or.inr ⟨g,c,_,rfl,h2,setRow_heap w g _ _ _ _ h3,h4,h5,?_,?_⟩⟩,a9w w g _,h2⟩
  ·rw[← hnew]
   cases hq:Tryz.prog.info? 74 with
   | none=>have:=a0m;simp[hq] at this
   | some q =>
    have hqs:q.size=32:=by have:=a0m;simpa [hq] using this
    have hc:(Value.agg (u8s s).toArray).cells=(u8s s).toArray:=rfl
    simp[storeVar,sizeOf,typeInfo,hq,hqs,hc,a2p,hl.1,h8]
  ·have hcs:(cellsOf (ss.set i s)).length=n * 32:=by rw[a0p (a2v hs hl i)];simp;omega
   simp[hcs,h6];omega
  ·have hcs:(cellsOf (ss.set i s)).length=n * 32:=by rw[a0p (a2v hs hl i)];simp;omega
   show (cellsOf (ss.set i s)++cur.toList.drop (n * 32)).take (n * 32)=_
   rw[← hcs,List.take_left]
theorem a6o{w:World}{ops:Array Oper}{o:Oper}{a:Act}{K:Act→World→Prop}{Q:Exit→Act→World→Prop}{F:Prop}(hw:Region.wanted o (yielded ops a.tmps)=true)(x y:Operand)(ho:o.op = .store 74 x y)
  (B g i n c:Nat) (hx:a.eval x = .pointer (some ⟨g,i * 32,none⟩)) (s:List Int) (hy:a.eval y = .agg (u8s s).toArray) (hl:Sec s) (ss:List (List Int)) (hs:Secs ss) (hi:i<ss.length) (hg:Own w B 74 32 (.slice (some ⟨g,0,none⟩) n c) n (cellsOf ss))
  (h:∀w',Own w' B 74 32 (.slice (some ⟨g,0,none⟩) n c) n (cellsOf (ss.set i s))→Touch (· = g) w w'→K (a.put o.dst undef) w'):if Region.wanted o (yielded ops a.tmps)=true then Oper.wp Tryz.prog o a w K Q else F:=by
 rw[if_pos hw]
 obtain⟨w',hrun,h1,h2,_⟩:=b8j hg hs hi hl
 unfold Oper.wp execOp
 simp only[ho,hx,hy,Instr.storeAt,Instr.sureAddr,Sem.run_bind,Sem.run_pure,Result.andThen_ok,hrun]
 exact h _ h1 h2
theorem b3m{w:World}{B:Nat}{e:TypeId}{sz n c:Nat}{p:Option Addr}{cs:List Value}(h:Own w B e sz (.slice p n c) n cs)(hn:0<n):∃g,p=some ⟨g,0,none⟩:=by
 rcases h.2 with⟨h2,h3⟩|⟨g',cap,cur,h1,_⟩
 ·omega
 ·cases h1;exact⟨_,rfl⟩
theorem a4k{w:World}{B gm i:Nat}{e:TypeId}{sz n:Nat}{v u:Value}{cs:List Value}(h:Own w B e sz v n cs)(hne:∀g m c,v = .slice (some ⟨g,0,none⟩) m c→g≠gm):Own (w.setCell ⟨gm,i,none⟩ u) B e sz v n cs:=by
 refine⟨h.1,?_⟩
 rcases h.2 with h2|⟨g,cap,cur,hv,h3,h4,h5⟩
 ·exact Or.inl h2
 ·exact Or.inr ⟨g,cap,cur,hv,h3,(Below.heap_setCell _ _ _ _ (hne g _ _ hv)).trans h4,h5⟩
theorem own_base{w:World}{B B':Nat}{e:TypeId}{sz n:Nat}{v:Value}{cs:List Value}(h:Own w B e sz v n cs)(hB:B'≤B):Own w B' e sz v n cs:=by
 refine⟨h.1,?_⟩
 rcases h.2 with h2|⟨g,cap,cur,hv,h3,h4⟩
 ·exact Or.inl h2
 ·exact Or.inr ⟨g,cap,cur,hv,Nat.le_trans hB h3,h4⟩
end dsk
namespace dsk
set_option maxRecDepth 100000
open Go.ChangeShapes Go.WideShapes Go.ChangeAt Go.RowKit
open rows
open sec
structure St.fine (st:St):Prop where
 few:st.few
 n1:st.safe.length≤65
 pos:∀x∈st.wait,0≤x.pos∧x.pos<(st.safe.length:Int)
def CodeDone(CA:World→(Nat→Prop)→Value→St→Prop)(F:Nat→Prop)(d:Value)(w:World)(r:Int×St)(e:Ending)(w':World):Prop:=e = .returned (.int .i64 r.1)∧CA w' (grow F w w') d r.2∧Touch F w w'
def readR(st:St)(i:Int):Value:=if 0≤i∧i<(st.safe.length:Int) then .tuple #[agg (readOf st i.toNat),.int .i64 0] else .tuple #[agg zero32,.int .i64 1]
end dsk
namespace dsk
set_option maxRecDepth 100000
open Go.ChangeShapes Go.WideShapes Go.ChangeAt Go.RowKit
open rows
open sec
end dsk
namespace dsk
open Go.ChangeShapes Go.WideShapes Go.ChangeAt Go.RowKit
open rows
open sec
end dsk
namespace dsk
open Go.ChangeShapes Go.WideShapes Go.ChangeAt Go.RowKit
open rows
open sec
end dsk
namespace dsk
open Go.ChangeShapes Go.WideShapes Go.ChangeAt Go.RowKit
open rows
open sec
end dsk
namespace dsk
open Go.ChangeShapes Go.WideShapes Go.ChangeAt Go.RowKit
open rows
open sec
end dsk
namespace dsk
open Go.ChangeShapes Go.WideShapes Go.ChangeAt Go.RowKit
open rows
open sec
structure St.good (k:Nat) (st:St):Prop where
 ss:Secs st.safe
 n1:st.safe.length≤65
 ws:∀x∈st.wait,Sec x.s∧0≤x.pos∧x.pos<(st.safe.length:Int)
 es:∀e∈st.log,Sec e.2.1.s∧e.2.2.length≤50
 wn:st.wait.length≤k
 ln:st.log.length≤k
 bn:st.bad.length≤50
 ep:0≤st.ep∧st.ep≤k
 asked:0≤st.asked∧st.asked≤k
theorem St.good.fine{k:Nat}{st:St}(h:st.good k)(hk:k≤900):st.fine :=
 ⟨⟨h.ss,fun x hx=>(h.ws x hx).1,fun e he=>(h.es e he).1,fun e he=>by have:=(h.es e he).2;omega,by have:=h.wn;omega,by have:=h.ln;omega,by have:=h.bn;omega,h.ep.1,by have:=h.ep.2;omega,h.asked.1,by have:=h.asked.2;omega⟩,h.n1,fun x hx=>(h.ws x hx).2⟩
end dsk
namespace dsk
set_option maxRecDepth 100000
open Go.ChangeShapes Go.WideShapes Go.ChangeAt Go.RowKit
open rows
open sec
open Go.Maps
def OwnS(S:Nat→Prop)(v:Value):Prop:=∀k,v.ownBlock=some k→S k
def Zn(F:Nat→Prop)(z:Nat→Nat)(k:Nat):Nat→Prop:=fun b=>F b∧z b=k
def seenOf(st:St):List (List Int):=outOf (fun _=>true) st.wait st.safe
structure LogIn (T:Nat→Prop) (w:World) (v:Value) (es:List Ev) (vs:List Value):Prop where
 len:vs.length=es.length
 own:Own w 0 149 38 v es.length ((es.zip vs).map fun x=>evC x.1 x.2).flatten
 tags:∀i (h:i<es.length),∃p c,vs[i]? = some (.slice p (es[i]).2.2.length c)∧Rd w 2 (.slice p (es[i]).2.2.length c) (es[i]).2.2.length (tagsC (es[i]).2.2)∧InS T (.slice p (es[i]).2.2.length c)
def FaultsIn(S:Nat→Prop)(w:World)(v:Value)(bad:List Int)(asked:Int):Prop :=
 (v = .map none∧bad=[]) ∨
 ∃b n,∃D:DataW Unit,v = .map (some b)∧S b∧n≤2000∧w.ownsMap Tryz.prog 3 unitElem b n D∧∀k:Int,wf64 k→asked≤k→Maps.has D (.int .i64 k)=decide (k∈bad)
structure CodeAt (w:World) (F:Nat→Prop) (z:Nat→Nat) (g:Nat) (st:St) (vs vw vn vl vf:Value):Prop where
 row:w.heap[g]? = some (.cells #[.pointer (some ⟨g,0,none⟩),vs,vw,vn,.int .i64 st.ep,vl,.int .i64 st.asked,vf] 146 (0,0))
 own:Zn F z 0 g
 safe:Own w 0 74 32 vs st.safe.length (cellsOf st.safe)
 safeS:OwnS (Zn F z 1) vs
 wait:Own w 0 78 36 vw st.wait.length (wrsC st.wait)
 waitS:OwnS (Zn F z 2) vw
 seen:Own w 0 74 32 vn st.safe.length (cellsOf (seenOf st))
 seenS:OwnS (Zn F z 3) vn
 log:∃es,LogIn (Zn F z 6) w vl st.log es
 logS:OwnS (Zn F z 4) vl
 faults:FaultsIn (Zn F z 5) w vf st.bad st.asked
 eps:∀x∈st.wait,0≤x.ep∧wf64 x.kind∧wf64 x.id
def CA(w:World)(F:Nat→Prop)(d:Value)(st:St):Prop:=∃z g vs vw vn vl vf,d = .pointer (some ⟨g,0,none⟩)∧CodeAt w F z g st vs vw vn vl vf
theorem a0i{S:Nat→Prop}{w w':World}{B:Nat}{e:TypeId}{sz n:Nat}{v:Value}{cs:List Value}(h:Own w B e sz v n cs)(hv:OwnS S v)(k:Keeps S w w'):Own w' B e sz v n cs:=by
 refine⟨h.1,?_⟩
 rcases h.2 with h2|⟨g,cap,cur,hw,h3,h4,h5⟩
 ·exact Or.inl h2
 ·exact Or.inr ⟨g,cap,cur,hw,h3,(k.2 g (Array.getElem?_eq_some_iff.1 h4).1 (hv g (by rw[hw];rfl))).trans h4,h5⟩
theorem a1z{w:World}{B:Nat}{e:TypeId}{sz n:Nat}{v:Value}{cs:List Value}(h:Own w B e sz v n cs){k:Nat}(hk:v.ownBlock=some k):B≤k∧k<w.heap.size:=World.ownsRow.lt h k hk
theorem OwnS.next{F F':Nat→Prop}{z z':Nat→Nat}{w:World}{B k:Nat}{e:TypeId}{sz n:Nat}{v:Value}{cs:List Value}(h:OwnS (Zn F z k) v)(o:Own w B e sz v n cs)(hF:∀b,F b→F' b)(hz:∀b,b<w.heap.size→z' b=z b):OwnS (Zn F' z' k) v :=
 fun b hb=>⟨hF b (h b hb).1,(hz b (a1z o hb).2).trans (h b hb).2⟩
theorem b2h(S:Nat→Prop):OwnS S (.slice none 0 0):=fun k hk=>by simp[Value.ownBlock] at hk
theorem a7v{T:Nat→Prop}{S:Nat→Prop}{w w':World}{v:Value}{es:List Ev}{vs:List Value}(h:LogIn T w v es vs)(hv:OwnS S v)(k:Keeps S w w')(k2:Keeps T w w'):LogIn T w' v es vs :=
 ⟨h.len,a0i h.own hv k,fun i hi=>by
  obtain⟨p,c,h1,h2,h3⟩:=h.tags i hi
  exact⟨p,c,h1,Rd.kept h2 h3 k2,h3⟩⟩
theorem LogIn.mono{T T':Nat→Prop}{w:World}{v:Value}{es:List Ev}{vs:List Value}(h:LogIn T w v es vs)(hT:∀b,b<w.heap.size→T b→T' b):LogIn T' w v es vs :=
 ⟨h.len,h.own,fun i hi=>by
  obtain⟨p,c,h1,h2,h3⟩:=h.tags i hi
  refine⟨p,c,h1,h2,fun a n c' hv hn => ?_⟩
  have hin:=h3 a n c' hv hn
  refine hT _ ?_ hin
  rcases h2 with⟨p',cap',e1,e2,_⟩|⟨b,off,cap',e1,_,_,_,hlt,_⟩
  ·rw[e1] at hv;cases hv;omega
  ·rw[e1] at hv;cases hv;exact hlt⟩
theorem a2s{S:Nat→Prop}{w w':World}{v:Value}{bad:List Int}{asked:Int}(h:FaultsIn S w v bad asked)(k:Keeps S w w'):FaultsIn S w' v bad asked:=by
 rcases h with h|⟨b,n,D,hv,hS,hn,ho,hk⟩
 ·exact Or.inl h
 ·refine Or.inr ⟨b,n,D,hv,hS,hn,?_,hk⟩
  have hlt:=ho.lt
  obtain⟨es,clock,hb,r⟩:=ho
  exact⟨es,clock,(k.2 b hlt hS).trans hb,r⟩
theorem FaultsIn.mono{S S':Nat→Prop}{w:World}{v:Value}{bad:List Int}{asked:Int}(h:FaultsIn S w v bad asked)(hS:∀b,b<w.heap.size→S b→S' b):FaultsIn S' w v bad asked:=by
 rcases h with h|⟨b,n,D,hv,hb,hn,ho,hk⟩
 ·exact Or.inl h
 ·exact Or.inr ⟨b,n,D,hv,hS b ho.lt hb,hn,ho,hk⟩
theorem b0z{S S':Nat→Prop}{w w':World}{v:Value}{bad:List Int}{asked:Int}(h:FaultsIn S w v bad asked)(k:Keeps S w w')(hS:∀b,b<w.heap.size→S b→S' b):FaultsIn S' w' v bad asked:=by
 rcases h with h|⟨b,n,D,hv,hb,hn,ho,hk⟩
 ·exact Or.inl h
 ·have hlt:=ho.lt
  obtain⟨es,clock,he,r⟩:=ho
  exact Or.inr ⟨b,n,D,hv,hS b hlt hb,hn,⟨es,clock,(k.2 b hlt hb).trans he,r⟩,hk⟩
theorem Zn.keeps{F:Nat→Prop}{z:Nat→Nat}{k:Nat}{w w':World}(h:Keeps F w w'):Keeps (Zn F z k) w w':=h.mono fun b hb=>hb.1
theorem a1d{w w':World}{F:Nat→Prop}{z:Nat→Nat}{g:Nat}{st:St}{vs vw vn vl vf:Value}(h:CodeAt w F z g st vs vw vn vl vf)(k:Keeps F w w'):CodeAt w' F z g st vs vw vn vl vf:=by
 obtain⟨es,he⟩:=h.log
 exact⟨(k.2 g (Array.getElem?_eq_some_iff.1 h.row).1 h.own.1).trans h.row,h.own,a0i h.safe h.safeS (Zn.keeps k),h.safeS,a0i h.wait h.waitS (Zn.keeps k),h.waitS,a0i h.seen h.seenS (Zn.keeps k),h.seenS,⟨es,a7v he h.logS (Zn.keeps k) (Zn.keeps k)⟩,h.logS,a2s h.faults (Zn.keeps k),h.eps⟩
theorem CodeAt.lt{w:World}{F:Nat→Prop}{z:Nat→Nat}{g:Nat}{st:St}{vs vw vn vl vf:Value}(h:CodeAt w F z g st vs vw vn vl vf):g<w.heap.size:=(Array.getElem?_eq_some_iff.1 h.row).1
theorem CodeAt.wider{w:World}{F F':Nat→Prop}{z z':Nat→Nat}{g:Nat}{st:St}{vs vw vn vl vf:Value}(h:CodeAt w F z g st vs vw vn vl vf)(hF:∀b,F b→F' b)(hz:∀b,b<w.heap.size→z' b=z b):CodeAt w F' z' g st vs vw vn vl vf:=by
 obtain⟨es,he⟩:=h.log
 exact⟨h.row,⟨hF _ h.own.1,(hz _ h.lt).trans h.own.2⟩,h.safe,h.safeS.next h.safe hF hz,h.wait,h.waitS.next h.wait hF hz,h.seen,h.seenS.next h.seen hF hz,⟨es,he.mono fun b hb hT=>⟨hF b hT.1,(hz b hb).trans hT.2⟩⟩,h.logS.next he.own hF hz,h.faults.mono fun b hb hT=>⟨hF b hT.1,(hz b hb).trans hT.2⟩,h.eps⟩
theorem a4y{F T:Nat→Prop}{z:Nat→Nat}{k:Nat}{w w':World}(h:Touch T w w')(hT:∀b,T b→¬(F b∧z b=k)):Keeps (Zn F z k) w w':=h.keeps fun b hb hb2=>hT b hb2 hb
theorem CodeAt.change{w w':World}{F T:Nat→Prop}{z:Nat→Nat}{g:Nat}{st:St}{vs vw vn vl vf:Value}(h:CodeAt w F z g st vs vw vn vl vf)(ht:Touch T w w')(h1:∀b,T b→¬(F b∧z b=1))(h2:∀b,T b→¬(F b∧z b=2))(h3:∀b,T b→¬(F b∧z b=3))(h4:∀b,T b→¬(F b∧z b=4))(h6:∀b,T b→¬(F b∧z b=6))
  {ep ask:Int} {vf':Value} {bad:List Int} (hr:w'.heap[g]? = some (.cells #[.pointer (some ⟨g,0,none⟩),vs,vw,vn,.int .i64 ep,vl,.int .i64 ask,vf'] 146 (0,0))) (hf:FaultsIn (Zn F z 5) w' vf' bad ask) :
  CodeAt w' F z g { st with ep:=ep,asked:=ask,bad:=bad } vs vw vn vl vf':=by
 obtain⟨es,he⟩:=h.log
 exact⟨hr,h.own,a0i h.safe h.safeS (a4y ht h1),h.safeS,a0i h.wait h.waitS (a4y ht h2),h.waitS,a0i h.seen h.seenS (a4y ht h3),h.seenS,⟨es,a7v he h.logS (a4y ht h4) (a4y ht h6)⟩,h.logS,hf,h.eps⟩
theorem a8m:Keyed Tryz.prog 3:=int_keyed Tryz.underlying3
theorem a2f:Tryz.prog.underlying 144=some (.map 3 192):=by kernel_rfl
theorem a9r(w:World):(zeroValue 192).run Tryz.prog w = .ok (.agg #[]) w:=by kernel_rfl
theorem a3r{k:Int}(h:wf64 k):keyOf Tryz.prog 3 (.int .i64 k)=some (.int .i64 k):=keyOf_int_mk Tryz.underlying3 h
end dsk
end Go.Proofs.YtjedjkjhodgidaaGreatDoor
