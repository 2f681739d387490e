/- What CheckStays wants, part 8. -/
import Derived.Test.YtpnahagiojelbaaGreatDoorCheckStaysA
import Derived.Test.YtpnahagiojelbaaGreatDoorCheckStaysB
import Derived.Test.YtpnahagiojelbaaGreatDoorCheckStaysG
import Derived.DeepKeys5
import Derived.DeepKeys3
set_option linter.unusedVariables false
set_option linter.unusedSimpArgs false
namespace Go.Proofs.YtpnahagiojelbaaGreatDoor
namespace dsk
set_option maxRecDepth 100000
open Go.ChangeShapes Go.WideShapes Go.ChangeAt Go.RowKit
open rows
open sec
open Go.Maps
theorem laidOutD:laidOutB Tryz.prog=true:=by kernel_rfl
theorem d4i:(match Tryz.prog.underlying 101 with|some (.array _ _)|some (.struct _)=>true|_=>false)=true:=by kernel_rfl
theorem b1t:Tryz.prog.keyType 101=true:=by kernel_rfl
theorem key_tag:Keyed Tryz.prog 101:=Keyed.of_law (deep_law_gate laidOutD (of_decide_eq_true (by kernel_rfl)) (of_decide_eq_true (by kernel_rfl)) b1t d4i)
def tagV(k i:Int):Value := .agg #[.int .i64 k,.int .i64 i]
def tagL(k i:Int):Lit := .string (keyBytes [.int .i64 k,.int .i64 i])
theorem c4l:∃m,Tryz.prog.types.size=m+1:=⟨Tryz.prog.types.size-1,of_decide_eq_true (by kernel_rfl)⟩
theorem c7y:(Tryz.prog.fieldsOf 101).all (·.name != "_")=true:=by kernel_rfl
theorem c4g{fs:List Field}{a b c d:Nat}(h:fs.map (fun f=>(f.type,f.offset))=[(a,b),(c,d)]):∃f0 f1,fs=[f0,f1]∧f0.type=a∧f0.offset=b∧f1.type=c∧f1.offset=d:=by
 match fs,h with
 | [f0,f1],h=>simp at h;exact⟨f0,f1,rfl,h.1.1,h.1.2,h.2.1,h.2.2⟩
theorem c9v{k i:Int}(hk:wf64 k)(hi:wf64 i):keyOf Tryz.prog 101 (tagV k i)=some (.string (keyBytes [.int .i64 k,.int .i64 i])):=by
 obtain⟨m,hm⟩:=c4l
 obtain⟨f0,f1,hfs,h0,h1,h2,h3⟩:=c4g b9l
 have hft:(tagV k i).formed Tryz.prog 101=true:=by simp[Value.formed,tagV,b6j,cellsTag]
 have hwk:(Lit.int .i64 k).wf=true:=hk
 have hwi:(Lit.int .i64 i).wf=true:=hi
 unfold keyOf
 simp only[b6j]
 rw[if_pos (by rw[b1t,hft];rfl),hm]
 unfold Program.keyLits
 simp only[b6j,Value.cells,tagV]
 rw[if_pos ⟨by rw[cellsTag];rfl,c7y⟩,hfs,List.mapM_cons,List.mapM_cons,List.mapM_nil,h0,h1,h2,h3,cellsInt]
 simp[Program.keyLits,a4f,hwk,hwi]
theorem a6g{k i:Int}(hk:wf64 k)(hi:wf64 i):keyOf Tryz.prog 101 (tagV k i)=some (tagL k i):=c9v hk hi
theorem d3j{k i k' i':Int}(hk:wf64 k)(hi:wf64 i)(hk':wf64 k')(hi':wf64 i')(h:tagL k i=tagL k' i'):k=k'∧i=i':=by
 have h1:=a6g hk hi
 have h2:=a6g hk' hi'
 rw[h] at h1
 have:=key_tag.inj h1 h2
 simp[tagV] at this
 exact this
theorem a4o:Tryz.prog.underlying 210=some (.map 101 202):=by kernel_rfl
def Wanted(w:World)(b:Nat)(ts:List (Int×Int)):Prop:=∃n,∃D:DataW Unit,n≤ts.length∧w.ownsMap Tryz.prog 101 unitElem b n D∧∀k i:Int,wf64 k→wf64 i→Maps.has D (tagL k i)=decide ((k,i)∈ts)
theorem a2g{S:Nat→Prop}{w w':World}{b:Nat}{ts:List (Int×Int)}(h:Wanted w b ts)(hb:S b)(k:Keeps S w w'):Wanted w' b ts:=by
 obtain⟨n,D,h1,h2,h3⟩:=h
 have hlt:=h2.lt
 obtain⟨es,clock,he,r⟩:=h2
 exact⟨n,D,h1,⟨es,clock,(k.2 b hlt hb).trans he,r⟩,h3⟩
theorem Wanted.lt{w:World}{b:Nat}{ts:List (Int×Int)}(h:Wanted w b ts):b<w.heap.size:=by
 obtain⟨n,D,h1,h2,h3⟩:=h
 exact h2.lt
def lastE(ts:List (Int×Int))(ws:List Wr):Int:=ws.foldl (fun a x=>if hasT ts x=true then max a x.ep else a) 0
theorem c4f(ts:List (Int×Int))(ws:List Wr)(j:Nat)(h:j<ws.length):lastE ts (ws.take (j+1))=if hasT ts ws[j]=true then max (lastE ts (ws.take j)) ws[j].ep else lastE ts (ws.take j):=by
 rw[List.take_succ_eq_append_getElem h,lastE,List.foldl_append];rfl
theorem b3m(ts:List (Int×Int)):∀(ws:List Wr) (p:Int×Bool) (a:Int),a=(if p.2=true then p.1 else 0)→0≤a→(∀x∈ws,0≤x.ep) →
  ws.foldl (fun a x=>if hasT ts x=true then max a x.ep else a) a=(if (ws.foldl (topStep ts) p).2=true then (ws.foldl (topStep ts) p).1 else 0)
 | [],p,a,h,_,_=>h
 | x::ws,p,a,h,h0,hx=>by
  have hx0:=hx x (List.mem_cons_self ..)
  rw[List.foldl_cons,List.foldl_cons]
  refine b3m ts ws (topStep ts p x) _ ?_ ?_ fun y hy=>hx y (List.mem_cons_of_mem _ hy)
  ·obtain⟨t,sb⟩:=p
   unfold topStep
   cases hh:hasT ts x<;>cases sb
   ·simpa using h
   ·simpa using h
   ·simp at h ⊢;omega
   ·simp only[if_true] at h
    by_cases hlt:t<x.ep
    ·simp[hlt];omega
    ·simp[hlt];omega
  ·split<;>omega
theorem c9r(ts:List (Int×Int))(ws:List Wr)(h:∀x∈ws,0≤x.ep):lastE ts ws=if (topOf ts ws).2=true then (topOf ts ws).1 else 0:=b3m ts ws (0,false) 0 rfl (Int.le_refl _) h
theorem b8l(ts:List (Int×Int))(ws:List Wr):∀j,0≤lastE ts (ws.take j):=by
 have key:∀(l:List Wr) (a:Int),0≤a→0≤l.foldl (fun a x=>if hasT ts x=true then max a x.ep else a) a:=by
  intro l
  induction l with
  | nil=>intro a h;exact h
  | cons x l ih=>intro a h;exact ih _ (by dsimp only;split<;>omega)
 exact fun j=>key _ 0 (Int.le_refl _)
def madeC(ts:List (Int×Int))(last:Int)(x:Wr):Bool:=hasT ts x || decide (x.ep<last)
theorem d4x(ts:List (Int×Int))(ws:List Wr)(h:∀x∈ws,0≤x.ep)(x:Wr)(hx:0≤x.ep):madeC ts (lastE ts ws) x=madeB ts (topOf ts ws) x:=by
 unfold madeC madeB
 rw[c9r ts ws h]
 cases hs:(topOf ts ws).2
 ·simp;omega
 ·simp
theorem b7t{mk mk':Wr→Bool}(ws:List Wr)(h:∀x∈ws,mk x=mk' x)(i:Nat)(x:Wr)(hx:x∈ws):staysB mk ws i x=staysB mk' ws i x:=by
 unfold staysB
 have e:(ws.drop (i+1)).any (fun y=>mk y && y.pos == x.pos)=(ws.drop (i+1)).any (fun y=>mk' y && y.pos == x.pos):=by
  rw[Bool.eq_iff_iff,List.any_eq_true,List.any_eq_true]
  constructor
  ·rintro⟨y,hy,h1⟩;exact⟨y,hy,by rw[← h y (List.mem_of_mem_drop hy)];exact h1⟩
  ·rintro⟨y,hy,h1⟩;exact⟨y,hy,by rw[h y (List.mem_of_mem_drop hy)];exact h1⟩
 rw[e,h x hx]
theorem a6y{mk mk':Wr→Bool}(ws:List Wr)(h:∀x∈ws,mk x=mk' x):∀j,j≤ws.length→leftUpto mk ws j=leftUpto mk' ws j
 | 0,_=>by simp[leftUpto]
 | j+1,hj=>by
  have hjl:j<ws.length:=by omega
  rw[a2a mk ws j hjl,a2a mk' ws j hjl,a6y ws h j (by omega),b7t ws h j _ (List.getElem_mem hjl)]
theorem b0i{mk mk':Wr→Bool}:∀(ws:List Wr) (safe:List (List Int)),(∀x∈ws,mk x=mk' x)→outOf mk ws safe=outOf mk' ws safe
 | [],_,_=>rfl
 | x::ws,safe,h=>by
  show outOf mk ws (outStep mk safe x)=outOf mk' ws (outStep mk' safe x)
  rw[show outStep mk safe x=outStep mk' safe x by unfold outStep;rw[h x (List.mem_cons_self ..)]]
  exact b0i ws _ fun y hy=>h y (List.mem_cons_of_mem _ hy)
theorem settleC(safe:List (List Int))(ws:List Wr)(ts:List (Int×Int))(h:∀x∈ws,0≤x.ep):settle safe ws ts=(outOf (madeC ts (lastE ts ws)) ws safe,leftUpto (madeC ts (lastE ts ws)) ws ws.length):=by
 have hm:∀x∈ws,madeB ts (topOf ts ws) x=madeC ts (lastE ts ws) x:=fun x hx=>(d4x ts ws h x (h x hx)).symm
 unfold settle
 rw[b0i ws safe hm,a6y ws hm _ (Nat.le_refl _)]
end dsk
namespace dsk
open Go.ChangeShapes Go.WideShapes Go.ChangeAt Go.RowKit
open rows
open sec
open Go.Maps
theorem a9z{ops:Array Oper}{rest:List Oper}{o:Oper}{a:Act}{w:World}{Q:Exit→Act→World→Prop}(hgd:o.guard=none)(x y:Operand)(ho:o.op = .store 103 x y)(hd:o.dst=none)
  (g:Nat) (z old:Wr) (hx:a.eval x = .pointer (some ⟨g,0,none⟩)) (hy:a.eval y = .agg z.c.toArray) (hs:Sec z.s) (hold:Sec old.s) (hg:AtW w g old)
  (h:∀w',AtW w' g z→Below g w w'→wpList Tryz.prog ops Q rest a w'):wpList Tryz.prog ops Q (o::rest) a w:=by
 refine wpList_store_row hgd 103 x y ho g z.c.toArray hx hy 103 _ hg (by rw[b4l];simp[Wr.c_len hs]) (by simp[Wr.c_len hs,Wr.c_len hold]) (by simp only[List.all_toArray];exact List.all_eq_true.2 (a7l z)) ?_
 rw[hd]
 exact h _ (setRow_heap w g _ _ _ _ hg) ((Below.refl g w).trans ⟨rfl,rfl,rfl,by simp[World.setRow],fun k hk=>setRow_other w g k _ (by omega)⟩)
theorem b4i(w:World):AtW (w.alloc (.cells (w0.c).toArray 103)) w.heap.size w0:=heap_alloc_new _ _
theorem AtW.parts{w:World}{g:Nat}{x:Wr}(h:AtW w g x)(hs:Sec x.s):w.cell? ⟨g,0,none⟩=some (.int .i64 x.pos)∧w.rangeAt g 1 (u8s x.s)∧w.cell? ⟨g,33,none⟩=some (.int .i64 x.kind)∧w.cell? ⟨g,34,none⟩=some (.int .i64 x.id)∧w.cell? ⟨g,35,none⟩=some (.int .i64 x.ep):=by
 have:=a5h hs h.range
 simpa using this
theorem AtW.later{w w':World}{g:Nat}{x:Wr}(h:AtW w g x)(hb:Below w.heap.size w w'):AtW w' g x:=a1h h hb (Array.getElem?_eq_some_iff.1 h).1
theorem b2f{w:World}{b:Nat}{ts:List (Int×Int)}(h:Wanted w b ts){k i:Int}(hk:wf64 k)(hi:wf64 i) :
  (Instr.lookup 210 (.map (some b)) (.agg #[.int .i64 k,.int .i64 i]) true).run Tryz.prog w = .ok (.tuple #[.agg #[],.bool (decide ((k,i)∈ts))]) w:=by
 obtain⟨n,D,hn,ho,hh⟩:=h
 obtain⟨u,ps,hr,hu⟩:=ho.look_ok key_tag a4o (b1l w) (unitElem_mk) (a6g hk hi)
 obtain⟨rfl,_⟩:=unitElem_inv hu
 rw[hh k i hk hi] at hr
 exact hr
set_option maxRecDepth 100000 in
set_option maxHeartbeats 1600000 in
theorem clast(w:World)(p:Option Addr)(m c:Nat)(b:Nat)(ws:List Wr)(ts:List (Int×Int))(h:Rd w 36 (.slice p m c) m (wrsC ws))(hs:∀x∈ws,Sec x.s)(hwf:∀x∈ws,0≤x.ep∧wf64 x.kind∧wf64 x.id)(hm:m≤1000)(hw:Wanted w b ts) :
  Calls Tryz.prog 177 #[.slice p m c,.map (some b)] w (Rt w (.int .i64 (lastE ts ws))):=by
 have HR:=ι h
 have HWC:=ι fun x hx=>Wr.c_len (hs x hx)
 have hml:ws.length=m:=Rd.count Wr.c h (fun x hx=>Wr.c_len (hs x hx)) (by decide)
 have HML:=ι hml
 have HS:=ι hs
 have HWF:=ι hwf
 have HW:=ι hw
 have hm1:(m:Int)≤1000:=by omega
 have hbl:=hw.lt
 clear h hml hs hwf hw
 go_enter Tryz.func177,Tryz.ntmps177
 go_wp2
 go_loopw [5,12] (fun tv iv wr=>∃(j:Nat) (t:Int),j≤m∧iv = .int .i64 (j:Int)∧tv = .int .i64 t∧Hid (lastE ts (ws.take j)=t)∧Below w.heap.size w wr) (fun _ iv _=>m-(intOf iv).toNat)
 case atStart=>exact⟨0,0,by omega,rfl,rfl,ι rfl,Below.refl _ _⟩
 case round =>
  obtain⟨j,t,hj,rfl,rfl,HT,hbr⟩:=hrel
  by_cases ha:j<m
  ·have ha1:(j:Int)<m:=by omega
   have hjl:j<ws.length:=by rw[HML.out];exact ha
   obtain⟨b1,o1,rfl,hc1,hmm1,hh1,hl1,HR1⟩:=Rd.chunk Wr.c HR.out HWC.out (by decide) ha
   have HRG:=ι (Rd.rangeLater (HR1 j hjl) hh1 hbr)
   have HSX:=ι (HS.out _ (List.getElem_mem hjl))
   have hwx:=HWF.out _ (List.getElem_mem hjl)
   have hts:=c4f ts ws j hjl
   rw[HT.out] at hts
   have HTS:=ι hts
   have ht0:=b8l ts ws j
   rw[HT.out] at ht0
   generalize ws[j]=x at *
   have HWX:=ι hwx
   have HLK:Hid (∀w',Below w.heap.size w w'→(Instr.lookup 210 (.map (some b)) (.agg #[.int .i64 x.kind,.int .i64 x.id]) true).run Tryz.prog w' = .ok (.tuple #[.agg #[],.bool (hasT ts x)]) w'):=ι fun w' hb=>by
    have h1:=b2f (a2g (S:=fun _=>True) HW.out trivial (Keeps.of_below hb)) HWX.out.2.1 HWX.out.2.2
    rw[h1];rfl
   clear HR1 hl1 hts hwx
   cases hq:hasT ts x
   all_goals (rw[hq] at HLK HTS;clear hq)
   all_goals go_wp2_with (first|(refine b2d rfl (.tmp 14) rfl b1 (o1+j * 36) rfl x HSX.out HRG.out ?_)|(refine a9z rfl _ _ rfl rfl wr.heap.size x w0 rfl rfl HSX.out a0i (b4i wr) ?_;intro w2 hx2 hb2;have hbw:=(a0a (Below.refl _ wr) _).trans hb2;clear hb2;have HX2:=ι hx2;obtain⟨_,_,c33,c34,c35⟩:=AtW.parts hx2 HSX.out;clear hx2;have hlk:=HLK.out w2 (hbr.trans (hbw.mono hbr.size));obtain⟨_,_,_,_,c35a⟩:=AtW.parts (AtW.later HX2.out (a0a (Below.refl _ w2) (.cells #[] 202))) HSX.out))
   all_goals refine⟨⟨j+1,_,by omega,by go_num,rfl,ι ?_,hbr.trans ((hbw.mono hbr.size).trans ((a0a (Below.refl _ w2) _).mono (by have:=hbr.size;have:=hbw.size;omega)))⟩,by simp[intOf];omega⟩
   ·rw[HTS.out];simp
   ·rw[HTS.out,if_pos rfl,Int.max_def];split<;>split<;>omega
  ·obtain rfl:j=m:=by omega
   have HTE:Hid (lastE ts ws=t):=ι (by have h:=HT.out;rwa [List.take_of_length_le (by rw[HML.out];omega)] at h)
   go_wp2_with fail
   go_ret
   exact⟨d0v HTE.out.symm,hbr⟩
end dsk
namespace dsk
set_option maxRecDepth 100000
open Go.ChangeShapes Go.WideShapes Go.ChangeAt Go.RowKit
open rows
open sec
open Go.Maps
def setl(mk:Wr→Bool)(ws:List Wr):Nat→List Nat
 | 0=>List.replicate 65 0
 | j+1=>match ws[j]? with
  | some x=>if mk x=true then (setl mk ws j).set x.pos.toNat (j+1) else setl mk ws j
  | none=>setl mk ws j
theorem rep0(n p:Nat):(List.replicate n 0).getD p 0=0:=by
 rw[List.getD_eq_getElem?_getD,List.getElem?_replicate];split<;>rfl
theorem b0g(mk:Wr→Bool)(ws:List Wr):∀j,(setl mk ws j).length=65
 | 0=>by simp[setl]
 | j+1=>by
  rw[setl]
  have ih:=b0g mk ws j
  split
  ·split
   ·simp[ih]
   ·exact ih
  ·exact ih
theorem b7b(mk:Wr→Bool)(ws:List Wr)(j:Nat)(h:j<ws.length):setl mk ws (j+1)=if mk ws[j]=true then (setl mk ws j).set ws[j].pos.toNat (j+1) else setl mk ws j:=by
 rw[setl,List.getElem?_eq_getElem h]
theorem d0t(mk:Wr→Bool)(ws:List Wr)(i p:Nat)(hp:p<65):∀j,j≤ws.length→((setl mk ws j).getD p 0≤i↔∀k (hk:k<ws.length),i≤k→k<j→¬(mk ws[k]=true∧ws[k].pos.toNat=p))
 | 0,_=>by rw[setl,rep0];exact⟨fun _ k _ _ h=>by omega,fun _=>Nat.zero_le _⟩
 | j+1,hj=>by
  have hjl:j<ws.length:=by omega
  have ih:=d0t mk ws i p hp j (by omega)
  have hlen:=b0g mk ws j
  rw[b7b mk ws j hjl]
  have step:(∀k (hk:k<ws.length),i≤k→k<j+1→¬(mk ws[k]=true∧ws[k].pos.toNat=p))↔(∀k (hk:k<ws.length),i≤k→k<j→¬(mk ws[k]=true∧ws[k].pos.toNat=p))∧(i≤j→¬(mk ws[j]=true∧ws[j].pos.toNat=p)):=by
   constructor
   ·intro h
    exact⟨fun k hk h1 h2=>h k hk h1 (by omega),fun h1=>h j hjl h1 (by omega)⟩
   ·rintro⟨h1,h2⟩ k hk h3 h4
    by_cases e:k=j
    ·subst e;exact h2 h3
    ·exact h1 k hk h3 (by omega)
  rw[step,← ih]
  by_cases hm:mk ws[j]=true
  ·rw[if_pos hm]
   by_cases hp2:ws[j].pos.toNat=p
   ·rw[hp2]
    have e:((setl mk ws j).set p (j+1)).getD p 0=j+1:=by simp[List.getD,hlen,hp]
    rw[e]
    constructor
    ·intro h
     refine⟨?_,fun h1=>by omega⟩
     rw[ih];intro k hk h1 h2;omega
    ·rintro⟨_,h2⟩
     by_cases h3:i≤j
     ·exact absurd ⟨hm,rfl⟩ (h2 h3)
     ·omega
   ·have e:((setl mk ws j).set ws[j].pos.toNat (j+1)).getD p 0=(setl mk ws j).getD p 0:=by
     simp[List.getD,List.getElem?_set,hp2]
    rw[e]
    exact⟨fun h=>⟨h,fun _ h2=>hp2 h2.2⟩,fun h=>h.1⟩
  ·rw[if_neg hm]
   exact⟨fun h=>⟨h,fun _ h2=>hm h2.1⟩,fun h=>h.1⟩
theorem b2u(mk:Wr→Bool)(ws:List Wr)(p:Nat):∀j,(setl mk ws j).getD p 0≤j
 | 0=>by rw[setl,rep0];exact Nat.le_refl _
 | j+1=>by
  rw[setl]
  have ih:=b2u mk ws p j
  split
  ·split
   ·simp only[List.getD,List.getElem?_set]
    simp only[List.getD] at ih
    split
    ·split<;>simp
    ·omega
   ·omega
  ·omega
theorem c5j(mk:Wr→Bool)(ws:List Wr)(hpos:∀x∈ws,0≤x.pos∧x.pos<65)(i:Nat)(hi:i<ws.length) :
  staysB mk ws i ws[i]=decide ((setl mk ws ws.length).getD ws[i].pos.toNat 0≤i):=by
 have hp:=hpos _ (List.getElem_mem hi)
 have h1:=d0t mk ws i ws[i].pos.toNat (by omega) ws.length (Nat.le_refl _)
 rw[Bool.eq_iff_iff,decide_eq_true_iff,h1]
 unfold staysB
 rw[Bool.and_eq_true,Bool.not_eq_true',Bool.not_eq_true',List.any_eq_false]
 constructor
 ·rintro⟨h2,h3⟩ k hk h4 _ ⟨h5,h6⟩
  by_cases e:k=i
  ·subst e;rw[h2] at h5;cases h5
  ·have hmem:ws[k]∈ws.drop (i+1):=by
    rw[List.mem_iff_getElem]
    exact⟨k-(i+1),by simp;omega,by simp;congr 1;omega⟩
   have hk0:=hpos _ (List.getElem_mem hk)
   refine h3 _ hmem ?_
   rw[h5]
   have:ws[k].pos=ws[i].pos:=by omega
   simp[this]
 ·intro h2
  refine⟨?_,fun y hy h3 => ?_⟩
  ·have:=h2 i hi (Nat.le_refl _) hi
   cases hm:mk ws[i]
   ·rfl
   ·exact absurd ⟨hm,rfl⟩ this
  ·rw[List.mem_iff_getElem] at hy
   obtain⟨k,hk,rfl⟩:=hy
   have hk2:k<ws.length-(i+1):=by simpa using hk
   have:=h2 (i+1+k) (by omega) (by omega) (by omega)
   rw[List.getElem_drop] at h3
   simp only[Bool.and_eq_true,beq_iff_eq] at h3
   exact this ⟨h3.1,by rw[h3.2]⟩
theorem c9u{α:Type}(l:List α){i j:Nat}(a b:α)(h:i≠j):(l.set i a).set j b=(l.set j b).set i a:=List.set_comm _ _ h
theorem b2r(p:Nat)(s:List Int):∀(l:List Wr) (a:List (List Int)),outOf (fun _=>true) (l.filter fun y=>y.pos.toNat != p) (a.set p s)=(outOf (fun _=>true) l a).set p s
 | [],a=>rfl
 | y::l,a=>by
  have e0:outOf (fun _=>true) (y::l) a=outOf (fun _=>true) l (a.set y.pos.toNat y.s):=rfl
  rw[e0,← b2r p s l (a.set y.pos.toNat y.s)]
  by_cases h:y.pos.toNat=p
  ·rw[List.filter_cons_of_neg (by simp[h]),h,List.set_set]
  ·rw[List.filter_cons_of_pos (by simp[h])]
   show outOf (fun _=>true) (l.filter fun y=>y.pos.toNat != p) ((a.set p s).set y.pos.toNat y.s)=_
   rw[c9u _ _ _ (fun e=>h e.symm)]
theorem b7k(mk:Wr→Bool)(ws:List Wr)(x:Wr)(hx:0≤x.pos)(hpos:∀y∈ws,0≤y.pos):∀j,j≤ws.length→leftUpto mk (ws++[x]) j=if mk x=true then (leftUpto mk ws j).filter (fun y=>y.pos.toNat != x.pos.toNat) else leftUpto mk ws j
 | 0,_=>by simp[leftUpto]
 | j+1,hj=>by
  have hjl:j<ws.length:=by omega
  have hjl2:j<(ws++[x]).length:=by simp;omega
  have ih:=b7k mk ws x hx hpos j (by omega)
  have eg:(ws++[x])[j]=ws[j]:=List.getElem_append_left hjl
  have hj0:=hpos _ (List.getElem_mem hjl)
  rw[a2a mk _ j hjl2,a2a mk ws j hjl,ih,eg]
  have es:staysB mk (ws++[x]) j ws[j]=(staysB mk ws j ws[j] && !(mk x && x.pos == ws[j].pos)):=by
   unfold staysB
   rw[List.drop_append_of_le_length (by omega),List.any_append]
   simp[Bool.and_assoc]
  rw[es]
  by_cases hm:mk x=true
  ·rw[if_pos hm,if_pos hm,List.filter_append]
   congr 1
   cases hs:staysB mk ws j ws[j]
   ·simp
   ·by_cases e:x.pos=ws[j].pos
    ·simp[hm,e]
    ·have e2:ws[j].pos.toNat≠x.pos.toNat:=by omega
     simp[hm,e,e2]
  ·rw[if_neg hm,if_neg hm]
   simp[hm]
theorem d1g(mk:Wr→Bool)(ws:List Wr)(x:Wr)(hx:0≤x.pos)(hpos:∀y∈ws,0≤y.pos):leftUpto mk (ws++[x]) (ws++[x]).length=if mk x=true then (leftUpto mk ws ws.length).filter (fun y=>y.pos.toNat != x.pos.toNat) else leftUpto mk ws ws.length++[x]:=by
 have hl:(ws++[x]).length=ws.length+1:=by simp
 rw[hl,a2a mk _ ws.length (by simp),b7k mk ws x hx hpos _ (Nat.le_refl _)]
 have eg:(ws++[x])[ws.length]'(by simp)=x:=by simp
 rw[eg]
 have es:staysB mk (ws++[x]) ws.length x = !mk x:=by simp[staysB]
 rw[es]
 cases hm:mk x<;>simp
theorem d3l(mk:Wr→Bool)(safe:List (List Int))(ws:List Wr)(hpos:∀x∈ws,0≤x.pos):outOf (fun _=>true) (leftUpto mk ws ws.length) (outOf mk ws safe)=outOf (fun _=>true) ws safe:=by
 have snocO:∀(m:Wr→Bool) (l:List Wr) (x:Wr) (a:List (List Int)),outOf m (l++[x]) a=outStep m (outOf m l a) x:=fun m l x a=>by unfold outOf;rw[List.foldl_append];rfl
 generalize hn:ws.length=n
 induction n generalizing ws with
 | zero =>
  obtain rfl:=List.eq_nil_of_length_eq_zero hn
  rfl
 | succ n ih =>
  obtain⟨l,x,rfl⟩:∃l x,ws=l++[x]:=⟨ws.dropLast,ws.getLast (by intro e;subst e;cases hn),(List.dropLast_concat_getLast _).symm⟩
  have hl:l.length=n:=by simpa using hn
  have ihl:=ih l (fun y hy=>hpos y (List.mem_append_left _ hy)) hl
  rw[← hn,d1g mk l x (hpos x (by simp)) (fun y hy=>hpos y (List.mem_append_left _ hy)),snocO,snocO,hl]
  by_cases hm:mk x=true
  ·rw[if_pos hm]
   show outOf _ _ (if mk x=true then _ else _)=(if true=true then _ else _)
   rw[if_pos hm,if_pos rfl,b2r,ihl]
  ·rw[if_neg hm,snocO]
   show (if true=true then _ else _)=(if true=true then _ else _)
   rw[if_pos rfl,if_pos rfl]
   show (outOf _ _ (if mk x=true then _ else _)).set _ _=_
   rw[if_neg hm,ihl]
theorem a9v(safe:List (List Int))(ws:List Wr)(ts:List (Int×Int))(hpos:∀x∈ws,0≤x.pos):outOf (fun _=>true) (settle safe ws ts).2 (settle safe ws ts).1=outOf (fun _=>true) ws safe:=d3l _ _ _ hpos
end dsk
namespace dsk
open Go.ChangeShapes Go.WideShapes Go.ChangeAt Go.RowKit
open rows
open sec
open Go.Maps
def LeftRow(w:World)(gw c:Nat)(ls ws:List Wr)(j:Nat):Prop:=∃mid rest:List Value,w.heap[gw]? = some (.cells (wrsC ls++mid++(wrsC (ws.drop j)++rest)).toArray 103 (0,0)) ∧
 (wrsC ls).length+mid.length=j * 36∧(wrsC (ws.drop j)++rest).length+j * 36=c * 36
theorem c2e{ws:List Wr}(h:∀x∈ws,Sec x.s):(wrsC ws).length=ws.length * 36:=a5w Wr.c 36 ws fun x hx=>Wr.c_len (h x hx)
theorem b0j{ws:List Wr}{j:Nat}(h:j<ws.length):wrsC (ws.drop j)=ws[j].c++wrsC (ws.drop (j+1)):=by
 unfold wrsC
 rw[List.drop_eq_getElem_cons h,List.map_cons,List.flatten_cons]
theorem b6o(ls:List Wr)(x:Wr):wrsC (ls++[x])=wrsC ls++x.c:=by simp[wrsC]
theorem LeftRow.lt{w:World}{gw c j:Nat}{ls ws:List Wr}(h:LeftRow w gw c ls ws j):gw<w.heap.size:=by
 obtain⟨mid,rest,h1,_⟩:=h
 exact(Array.getElem?_eq_some_iff.1 h1).1
theorem LeftRow.next{w w':World}{gw c j:Nat}{ls ws:List Wr}(h:LeftRow w gw c ls ws j)(hb:w'.heap[gw]? = w.heap[gw]?):LeftRow w' gw c ls ws j:=by
 obtain⟨mid,rest,h1,h2⟩:=h
 exact⟨mid,rest,hb.trans h1,h2⟩
theorem LeftRow.below{w w':World}{gw c j:Nat}{ls ws:List Wr}(h:LeftRow w gw c ls ws j)(hb:Below w.heap.size w w'):LeftRow w' gw c ls ws j:=h.next (hb.block gw h.lt)
theorem LeftRow.range{w:World}{gw c j:Nat}{ls ws:List Wr}(h:LeftRow w gw c ls ws j)(hj:j<ws.length):w.rangeAt gw (j * 36) ws[j].c:=by
 obtain⟨mid,rest,h1,h2,h3⟩:=h
 intro i u hi
 refine a0c h1 _ _ ?_
 rw[List.getElem?_toArray,← h2,← List.length_append,List.getElem?_append_right (by omega),b0j hj]
 rw[Nat.add_sub_cancel_left,List.append_assoc,List.getElem?_append_left (List.getElem?_eq_some_iff.1 hi).1]
 exact hi
theorem LeftRow.skip{w:World}{gw c j:Nat}{ls ws:List Wr}(h:LeftRow w gw c ls ws j)(hj:j<ws.length)(hs:Sec ws[j].s):LeftRow w gw c ls ws (j+1):=by
 obtain⟨mid,rest,h1,h2,h3⟩:=h
 have hc:=Wr.c_len hs
 rw[b0j hj] at h1 h3
 refine⟨mid++ws[j].c,rest,?_,by simp[hc];omega,by simp[hc] at h3 ⊢;omega⟩
 rw[h1]
 simp[List.append_assoc]
theorem LeftRow.append{w:World}{gw c j:Nat}{ls ws:List Wr}(h:LeftRow w gw c ls ws j)(hj:j<ws.length)(hs:Sec ws[j].s)(hls:∀x∈ls,Sec x.s)(hl:ls.length≤j){x:Wr}(hx:ws[j]=x)(ty:TypeId)(ad:Addr)(c2:Nat)(hn:∀i u,x.c[i]? = some u→w.cell? (ad.add i)=some u) :
  ∃w',(Builtin.append_ #[49,49] ty #[.slice (some ⟨gw,0,none⟩) ls.length c,.slice (some ad) 1 c2]).run Tryz.prog w = .ok (.slice (some ⟨gw,0,none⟩) (ls.length+1) c) w'∧LeftRow w' gw c (ls++[x]) ws (j+1)∧Touch (· = gw) w w':=by
 obtain⟨mid,rest,h1,h2,h3⟩:=h
 obtain⟨i0,hi,hz0,hz1,hz2⟩:=info_parts elem_wrs.info
 have hc:=Wr.c_len hs
 have hll:=c2e hls
 rw[b0j hj] at h1 h3
 rw[hx] at h1 h3 hc
 have hdl:(wrsC (ws.drop (j+1))++rest).length+(j+1) * 36=c * 36:=by simp[hc] at h3 ⊢;omega
 have hjc:j+1≤c:=by omega
 have hr:=run_append_room (P:=Tryz.prog) w 49 ty 103 i0 elem_wrs.und hi gw ls.length c _ h1 ad 1 c2 x.c (by rw[hz1,hc]) hn (a7l x) (by omega) (by rw[hz1];simp[hc,hll];omega)
 refine⟨_,hr,⟨(mid++x.c).drop 36,rest,?_,?_,hdl⟩,a3f w gw _⟩
 ·rw[setRow_heap w gw _ _ _ _ h1,hz1,hc,← hll,b6o]
  have e1:wrsC ls++mid++(x.c++wrsC (ws.drop (j+1))++rest)=wrsC ls++((mid++x.c)++(wrsC (ws.drop (j+1))++rest)):=by simp[List.append_assoc]
  rw[e1]
  have e2:((mid++x.c)++(wrsC (ws.drop (j+1))++rest)).drop 36=(mid++x.c).drop 36++(wrsC (ws.drop (j+1))++rest):=List.drop_append_of_le_length (by simp[hc])
  rw[List.take_left,← List.drop_drop,List.drop_left,e2]
  simp[List.append_assoc]
 ·rw[b6o];simp[hc];omega
theorem LeftRow.start{w:World}{gw c m:Nat}{ws:List Wr}{B:Nat}(h:Own w B 103 36 (.slice (some ⟨gw,0,none⟩) m c) m (wrsC ws)):LeftRow w gw c [] ws 0:=by
 rcases h.2 with⟨h2,_⟩|⟨g',cap,cur,h1,h2,h3,h4,h5,h6,h7⟩
 ·cases h2
 ·cases h1
  have e:cur.toList=wrsC ws++cur.toList.drop (m * 36):=by rw[← h7,List.take_append_drop]
  refine⟨[],cur.toList.drop (m * 36),?_,by simp[wrsC],?_⟩
  ·rw[h3];simp only[wrsC,List.map_nil,List.flatten_nil,List.nil_append,List.drop_zero] at e ⊢;rw[← e]
  ·rw[List.drop_zero,← e,Array.length_toList,h6];simp
theorem LeftRow.own{w:World}{gw c j:Nat}{ls ws:List Wr}(h:LeftRow w gw c ls ws j)(hls:∀x∈ls,Sec x.s)(hl:ls.length≤j)(hj:j≤c)(hc:c≤maxLen):Own w 0 103 36 (.slice (some ⟨gw,0,none⟩) ls.length c) ls.length (wrsC ls):=by
 obtain⟨mid,rest,h1,h2,h3⟩:=h
 have hll:=c2e hls
 refine⟨hll,Or.inr ⟨gw,c,_,rfl,Nat.zero_le _,h1,by omega,hc,?_,?_⟩⟩
 ·simp only[List.size_toArray]
  simp only[List.length_append] at h3 ⊢
  omega
 ·show (wrsC ls++mid++_).take _=_
  rw[List.append_assoc,← hll,List.take_left]
theorem ap_left{w:World}{ops:Array Oper}{rest:List Oper}{o:Oper}{a:Act}{Q:Exit→Act→World→Prop}(hgd:o.guard=none)(s x:Operand)(ho:o.op = .call { callee := .builtin .append,args := #[s,x],argTypes := #[49,49] })
  {gw c j:Nat} {ls ws:List Wr} (h:LeftRow w gw c ls ws j) (hj:j<ws.length) (hs:Sec ws[j].s) (hls:∀x∈ls,Sec x.s) (hl:ls.length≤j) {y:Wr} (hy:ws[j]=y) (nl:Nat) (hnl:ls.length=nl) (hv:a.eval s = .slice (some ⟨gw,0,none⟩) nl c) (b c2:Nat) (hx:a.eval x = .slice (some ⟨b,0,none⟩) 1 c2) (hr:w.rangeAt b 0 y.c)
  (k:∀w',LeftRow w' gw c (ls++[y]) ws (j+1)→Touch (· = gw) w w'→wpList Tryz.prog ops Q rest (a.put o.dst (.slice (some ⟨gw,0,none⟩) (nl+1) c)) w'):wpList Tryz.prog ops Q (o::rest) a w:=by
 subst hnl
 refine wpList_plain hgd fun K hK => ?_
 obtain⟨w',hrun,h2,h3⟩:=h.append hj hs hls hl hy o.type ⟨b,0,none⟩ c2 (fun i u hi=>by rw[Addr.add_mid];exact hr i u hi)
 unfold Oper.wp
 simp[execOp,ho,resolve,invoke,builtin,hv,hx,hrun,Result.andThen]
 exact hK _ _ (k w' h2 h3)
end dsk
namespace dsk
open Go.ChangeShapes Go.WideShapes Go.ChangeAt Go.RowKit
open rows
open sec
open Go.Maps
structure Mild (st:St):Prop where
 ss:Secs st.safe
 ws:∀x∈st.wait,Sec x.s
 wn:st.wait.length≤900
 n1:st.safe.length≤65
 pos:∀x∈st.wait,0≤x.pos∧x.pos<(st.safe.length:Int)
theorem St.fine.mild{st:St}(h:st.fine):Mild st.asked1:=⟨h.few.ss,h.few.ws,h.few.wn,h.n1,h.pos⟩
theorem b2k{ts:List (Int×Int)}{j:Nat}(h:j<ts.length)(t:Int×Int):(t∈ts.take (j+1))↔(t∈ts.take j∨t=ts[j]):=by
 rw[List.take_succ_eq_append_getElem h,List.mem_append,List.mem_singleton]
theorem c9y(k i:Int):WideAt.IsKeyLit (tagL k i):=trivial
theorem b1c{w w':World}{b j:Nat}{ts:List (Int×Int)}{D:DataW Unit}{k i:Int}(hj:j<ts.length)(hx:ts[j]=(k,i))(hk:wf64 k)(hi:wf64 i)(hD:w.ownsMap Tryz.prog 101 unitElem b j D)(hh:∀k i:Int,wf64 k→wf64 i→Maps.has D (tagL k i)=decide ((k,i)∈ts.take j))
  (h:w'.ownsMap Tryz.prog 101 unitElem b (j+1) (D.put (tagL k i) (.agg []))):∃D:DataW Unit,w'.ownsMap Tryz.prog 101 unitElem b (j+1) D∧∀k i:Int,wf64 k→wf64 i→Maps.has D (tagL k i)=decide ((k,i)∈ts.take (j+1)):=by
 refine⟨_,h,fun k' i' hk' hi' => ?_⟩
 have h1:=b2k hj (k',i')
 rw[hx] at h1
 by_cases e:(k',i')=(k,i)
 ·cases e
  rw[Maps.has_put_same hD.isMap (c9y _ _),decide_eq_true (h1.2 (Or.inr rfl))]
 ·rw[Maps.has_put_other (fun e2=>e (by have:=d3j hk' hi' hk hi e2;rw[this.1,this.2])),hh k' i' hk' hi']
  simp[h1,e]
def ar(l:List Nat):Array Value:=(l.map fun n:Nat=>Value.int .i64 (n:Int)).toArray
theorem ar_at(l:List Nat)(i:Nat)(h:i<l.length):(ar l)[i]? = some (.int .i64 ((l.getD i 0:Nat):Int)):=by
 simp[ar,List.getD,h]
theorem ar_set(l:List Nat)(i n:Nat):(ar l).setIfInBounds i (.int .i64 (n:Int))=ar (l.set i n):=by
 simp[ar,List.map_set]
theorem d0s(mk:Wr→Bool)(ws:List Wr)(w:World):(zeroValue 252).run Tryz.prog w = .ok (.agg (ar (setl mk ws 0))) w:=by
 have h:(zeroValue 252).run Tryz.prog w = .ok (.agg (List.replicate 65 (Value.int .i64 0)).toArray) w:=by kernel_rfl
 rw[h]
 have e:ar (setl mk ws 0)=(List.replicate 65 (Value.int .i64 0)).toArray:=by rw[setl,ar,List.map_replicate];rfl
 rw[e]
structure SeL2 (w:World) (F:Nat→Prop) (z:Nat→Nat) (vs:Value) (n ga bm:Nat) (ts:List (Int×Int)) (o:List (List Int)) (l:List Nat) (wr:World):Prop where
 touch:Touch (fun k=>vs.ownBlock=some k) w wr
 own:Own wr 0 65 32 vs n (cellsOf o)
 row:wr.heap[ga]? = some (.cells (ar l) 252 (0,0))
 want:Wanted wr bm ts
 hbm:w.heap.size≤bm
 hga:bm<ga
 hvs:∀k,vs.ownBlock=some k→Zn F z 1 k∧k<w.heap.size
theorem SeL2.lt{w:World}{F:Nat→Prop}{z:Nat→Nat}{vs:Value}{n ga bm:Nat}{ts:List (Int×Int)}{o:List (List Int)}{l:List Nat}{wr:World}(h:SeL2 w F z vs n ga bm ts o l wr):ga<wr.heap.size:=(Array.getElem?_eq_some_iff.1 h.row).1
theorem SeL2.below{w:World}{F:Nat→Prop}{z:Nat→Nat}{vs:Value}{n ga bm:Nat}{ts:List (Int×Int)}{o:List (List Int)}{l:List Nat}{wr w':World}(h:SeL2 w F z vs n ga bm ts o l wr)(hb:Below wr.heap.size wr w'):SeL2 w F z vs n ga bm ts o l w' :=
 ⟨h.touch.trans (Touch.of_below hb),a1g h.own hb,a1h h.row hb h.lt,a2g (S:=fun _=>True) h.want trivial (Keeps.of_below hb),h.hbm,h.hga,h.hvs⟩
theorem SeL2.store{w:World}{F:Nat→Prop}{z:Nat→Nat}{gs n cs ga bm:Nat}{ts:List (Int×Int)}{o o':List (List Int)}{l:List Nat}{wr w':World}(h:SeL2 w F z (.slice (some ⟨gs,0,none⟩) n cs) n ga bm ts o l wr)(ht:Touch (· = gs) wr w')
  (ho:Own w' 0 65 32 (.slice (some ⟨gs,0,none⟩) n cs) n (cellsOf o')):SeL2 w F z (.slice (some ⟨gs,0,none⟩) n cs) n ga bm ts o' l w':=by
 have hgs:=(h.hvs gs rfl).2
 have h1:=h.hbm
 have h2:=h.hga
 have h3:=h.lt
 exact⟨h.touch.trans' ht (fun i hi=>Or.inl (by rw[hi];rfl)),ho,(ht.block ga h3 (by omega)).trans h.row,a2g (S:=(· = bm)) h.want rfl (ht.keeps fun k hk=>by omega),h.hbm,h.hga,h.hvs⟩
theorem SeL2.mark{w:World}{F:Nat→Prop}{z:Nat→Nat}{vs:Value}{n ga bm:Nat}{ts:List (Int×Int)}{o:List (List Int)}{l:List Nat}{wr:World}(h:SeL2 w F z vs n ga bm ts o l wr)(kp j:Nat):SeL2 w F z vs n ga bm ts o (l.set kp j) (wr.setCell ⟨ga,kp,none⟩ (.int .i64 (j:Int))):=by
 have h1:=h.hbm
 have h2:=h.hga
 have h3:=h.lt
 refine⟨h.touch.trans' (Touch.setCell (S:=(· = ga)) (Touch.refl _ _) ⟨ga,kp,none⟩ rfl _) (fun i hi=>Or.inr (by omega)),a2p h.own (fun g m c e=>by have:=(h.hvs g (by rw[e];rfl)).2;omega),?_,a2g (S:=(· = bm)) h.want rfl (Keeps.set (fun k hk=>by omega) _),h.hbm,h.hga,h.hvs⟩
 rw[← ar_set]
 exact a0e h.row _
set_option maxHeartbeats 3200000 in
set_option maxRecDepth 100000 in
theorem csettle(w:World)(F:Nat→Prop)(z:Nat→Nat)(g:Nat)(st:St)(vs vn vl vf:Value)(gw cw:Nat)(h:CodeAt w F z g st vs (.slice (some ⟨gw,0,none⟩) st.wait.length cw) vn vl vf)(hf:Mild st)(p:Option Addr)(q c:Nat)(ts:List (Int×Int))
  (ht:Rd w 2 (.slice p q c) q (tagsC ts)) (hti:InS (fun b=>¬F b) (.slice p q c)) (hq:q≤50) (hwt:∀t∈ts,wf64 t.1∧wf64 t.2) :
  Calls Tryz.prog 138 #[.pointer (some ⟨g,0,none⟩),.slice p q c] w fun e w'=>e = .returned (.tuple #[])∧∃vw',CodeAt w' F z g { st with safe:=(settle st.safe st.wait ts).1,wait:=(settle st.safe st.wait ts).2 } vs vw' vn vl vf∧Touch (fun b=>F b∧(z b=0∨z b=1∨z b=2)) w w':=by
 have hql:ts.length=q:=Rd.count tagC ht (fun x _=>rfl) (by decide)
 have HQL:=ι hql
 have HTG:=ι ht
 have HTI:=ι hti
 have HWT:=ι hwt
 have HA:=ι h
 have HFI:=ι hf
 have hq1:(q:Int)≤50:=by omega
 have hmm:=fun w=>a6b a4o q (by omega) w
 have hlt:=h.lt
 clear hql ht hti hwt h hf
 go_enter Tryz.func138,Tryz.ntmps138
 go_wp2_with fail
 obtain⟨W1,hW1⟩:∃W1,W1=w.alloc (.map #[] 0):=⟨_,rfl⟩
 have HB1:Hid (Below w.heap.size w W1):=ι (by rw[hW1];exact a0a (Below.refl _ w) _)
 have hs1:W1.heap.size=w.heap.size+1:=by rw[hW1,size_alloc]
 have HW0:Hid (∃D:DataW Unit,W1.ownsMap Tryz.prog 101 unitElem w.heap.size 0 D∧∀k i:Int,wf64 k→wf64 i→Maps.has D (tagL k i)=decide ((k,i)∈ts.take 0)):=by
  rw[hW1]
  exact ι ⟨.map [],World.ownsMap_made _ _ _ _,fun _ _ _ _=>by simp[Maps.has]⟩
 rw[← hW1]
 clear hW1
 go_loopw [21] (fun iv wr=>∃(jt:Nat),jt≤q∧iv = .int .i64 (jt:Int)∧Hid (Below w.heap.size w wr)∧w.heap.size+1≤wr.heap.size∧Hid (∃D:DataW Unit,wr.ownsMap Tryz.prog 101 unitElem w.heap.size jt D∧∀k i:Int,wf64 k→wf64 i→Maps.has D (tagL k i)=decide ((k,i)∈ts.take jt))) (fun iv _=>q-(intOf iv).toNat)
 case atStart=>exact⟨0,by omega,rfl,HB1,by omega,HW0⟩
 case round =>
  clear HW0 HB1
  obtain⟨jt,hj,rfl,HB,hsr,HO⟩:=hrel
  by_cases ha:jt<q
  ·have ha1:(jt:Int)<q:=by omega
   have hjl:jt<ts.length:=by rw[HQL.out];exact ha
   obtain⟨b1,o1,rfl,hc1,hm1,hh1,hl1,HR1⟩:=Rd.chunk tagC HTG.out (fun x _=>rfl) (by decide) ha
   have hr1:=Rd.rangeLater (HR1 jt hjl) hh1 HB.out
   have HX:Hid (ts[jt]=(ts[jt].1,ts[jt].2)):=ι rfl
   have hwx:=HWT.out _ (List.getElem_mem hjl)
   obtain⟨D,hD,hhas⟩:=HO.out
   have HH:=ι hhas
   have HMORE:Hid (∀(k i:Int) (w':World),ts[jt]=(k,i)→wf64 k→wf64 i→w'.ownsMap Tryz.prog 101 unitElem w.heap.size (jt+1) (D.put (tagL k i) (.agg []))→(∃D:DataW Unit,w'.ownsMap Tryz.prog 101 unitElem w.heap.size (jt+1) D∧∀k i:Int,wf64 k→wf64 i→Maps.has D (tagL k i)=decide ((k,i)∈ts.take (jt+1)))):=ι fun k i w' e hk hi h=>b1c hjl e hk hi hD HH.out h
   generalize ts[jt]=x at *
   obtain⟨x1,x2⟩:=x
   have HWX:=ι hwx
   have hx1:=hr1 0 _ rfl
   have hx2:=hr1 1 _ rfl
   rw[Nat.add_zero] at hx1
   clear HR1 hl1 hr1 hwx hhas HO
   have hDa:(wr.alloc (.cells #[.int .i64 x1,.int .i64 x2] 101)).ownsMap Tryz.prog 101 unitElem w.heap.size jt D:=by
    obtain⟨es,clock,he,r⟩:=hD
    exact⟨es,clock,a4u he _,r⟩
   go_wp2_with (at_mapUpdate;refine wpList_mapUpdate_own _ rfl _ _ _ 210 rfl 101 202 key_tag a4o unitElem w.heap.size jt D rfl hDa (by unfold maxLen;omega) _ _ (tagL x1 x2) rfl rfl (a6g HWX.out.1 HWX.out.2) (.agg []) [] unitElem_mk ?_;intro w3 hown3 hgrow3)
   have hB3:Below w.heap.size w w3:=by
    have h1:Below w.heap.size w (wr.alloc (.cells #[.int .i64 x1,.int .i64 x2] 101)):=a0a HB.out _
    exact h1.trans ⟨hgrow3.os,hgrow3.tape,hgrow3.output,hgrow3.size,fun k hk=>hgrow3.block k (by have:=h1.size;omega) (fun e=>by injection e;omega)⟩
   have hs3:=hgrow3.size
   rw[size_alloc] at hs3
   go_roundw
   case rel=>exact⟨jt+1,by omega,by go_num,ι hB3,by omega,ι (HMORE.out x1 x2 w3 HX.out HWX.out.1 HWX.out.2 hown3)⟩
   case measure=>simp[intOf];omega
  ·obtain rfl:jt=q:=by omega
   have HW1:Hid (Wanted wr w.heap.size ts):=ι (by
    obtain⟨D,hD,hh⟩:=HO.out
    rw[List.take_of_length_le (by rw[HQL.out];omega)] at hh
    exact⟨jt,D,by rw[HQL.out];exact Nat.le_refl _,hD,hh⟩)
   clear HO
   have hrg:=a1h HA.out.row HB.out hlt
   have c2:wr.cell? ⟨g,2,none⟩=some (.slice (some ⟨gw,0,none⟩) st.wait.length cw):=a0c hrg 2 _ rfl
   have HRG:=ι hrg
   have HAR:=ι (a1m HA.out (Keeps.of_below HB.out))
   have HCL:=ι (clast wr (some ⟨gw,0,none⟩) st.wait.length cw w.heap.size st.wait ts HAR.out.wait.rd HFI.out.ws (fun x hx=>HA.out.eps x hx) (by have:=HFI.out.wn;omega) HW1.out)
   clear hrg
   go_upto_region 7 with(go_at_call 177;refine HCL.out.mono ?_;rintro e w2 ⟨rfl,hb2⟩)
   obtain⟨mk,hmk⟩:∃mk,mk=madeC ts (lastE ts st.wait):=⟨_,rfl⟩
   have HMK:=ι hmk
   have hz:=d0s mk st.wait
   obtain⟨L,hL⟩:∃L,lastE ts st.wait=L:=⟨_,rfl⟩
   have HL:=ι hL
   rw[hL]
   obtain⟨ps,cs,hvs⟩:=HA.out.safe.slice
   subst hvs
   have hn1:=HFI.out.n1
   have hm1:=HFI.out.wn
   have HPOS:=ι HFI.out.pos
   have HWS:=ι HFI.out.ws
   have HSS:=ι HFI.out.ss
   have hb20:=HB.out.trans (hb2.mono HB.out.size)
   have hs2:=hb2.size
   have c2b:w2.cell? ⟨g,2,none⟩=some (.slice (some ⟨gw,0,none⟩) st.wait.length cw):=a0c (a1h HRG.out hb2 (by omega)) 2 _ rfl
   have HW2:=ι (a2g (S:=fun _=>True) HW1.out trivial (Keeps.of_below hb2))
   clear hmk hL HCL c2
   obtain⟨W2,hW2⟩:∃W2,W2=w2.alloc (.cells (ar (setl mk st.wait 0)) 252):=⟨_,rfl⟩
   have c2c:W2.cell? ⟨g,2,none⟩=some (.slice (some ⟨gw,0,none⟩) st.wait.length cw):=by
    rw[hW2];exact a0c (a4u (a1h HRG.out hb2 (by omega)) _) 2 _ rfl
   have hsz2:W2.heap.size=w2.heap.size+1:=by rw[hW2,size_alloc]
   have HBW:Hid (Below w.heap.size w W2):=ι (by rw[hW2];exact a0a hb20 _)
   have HAW:=ι (a1m HA.out (Keeps.of_below HBW.out))
   have hc2d:(w2.alloc (.cells (ar (setl mk st.wait 0)) 252)).cell? ⟨g,2,none⟩=some (.slice (some ⟨gw,0,none⟩) st.wait.length cw):=by rw[← hW2];exact c2c
   have hsw:=HBW.out.size
   have HL20:Hid (SeL2 w F z (.slice ps st.safe.length cs) st.safe.length w2.heap.size w.heap.size ts st.safe (setl mk st.wait 0) W2):=ι ⟨Touch.of_below HBW.out,HAW.out.safe,by rw[hW2];exact heap_alloc_new _ _,a2g (S:=fun _=>True) HW2.out trivial (Keeps.of_below (show Below w2.heap.size w2 W2 by rw[hW2];exact a0a (Below.refl _ _) _)),by omega,by omega,fun k hk=>⟨(HA.out.safeS k hk),(a2x HA.out.safe hk).2⟩⟩
   have HBG:Hid (∀b,F b→z b≠1→b<w.heap.size→∀w',Touch (fun k=>(Value.slice ps st.safe.length cs).ownBlock=some k) w w'→w'.heap[b]? = w.heap[b]?):=ι (fun b hF hz1 hlt w' ht=>ht.block b hlt fun e=>hz1 (HA.out.safeS b e).2)
   clear hb20 hb2 HAR HW1 HB HW2 c2c HBW HAW HWT HTG HTI hmm
   first
   | (go_wp2_with fail;rw[hz];simp only[Result.andThen_ok])
   | (go_upto_region 8 with fail)
   rw[← hW2]
   rw[← hW2] at hc2d
   clear hz hW2
   go_wp2_with fail
   clear hc2d c2b
   generalize hms:st.wait.length=m at *
   generalize hns:st.safe.length=n at *
   have HMS:=ι hms
   have HNS:=ι hns
   have hmi:(m:Int)≤900:=by omega
   have HWC:=ι fun x hx=>Wr.c_len (HWS.out x hx)
   have HGW:Hid (Zn F z 2 gw∧gw<w.heap.size∧m≤cw∧cw≤maxLen):=ι (by
    have h1:=HA.out.wait.2
    rcases h1 with⟨h2,_⟩|⟨g',cap,cur,h2,_,h4,h5,h6,_⟩
    ·cases h2
    ·cases h2
     exact⟨HA.out.waitS _ rfl,(Array.getElem?_eq_some_iff.1 h4).1,h5,h6⟩)
   have HWRD:Hid (Rd w 36 (.slice (some ⟨gw,0,none⟩) m cw) m (wrsC st.wait)):=ι (by have:=HA.out.wait.rd;rwa [HMS.out] at this)
   clear hms hns
   go_loopw [40] (fun iv wr=>∃(j:Nat),j≤m∧iv = .int .i64 (j:Int)∧Hid (SeL2 w F z (.slice ps n cs) n w2.heap.size w.heap.size ts (outOf mk (st.wait.take j) st.safe) (setl mk st.wait j) wr)) (fun iv _=>m-(intOf iv).toNat)
   case atStart=>exact⟨0,by omega,rfl,HL20⟩
   case round =>
    clear HL20
    obtain⟨j,hj,rfl,HL2⟩:=hrel
    by_cases ha:j<m
    ·have ha1:(j:Int)<m:=by omega
     have hjl:j<st.wait.length:=by rw[HMS.out];exact ha
     have hmem:=List.getElem_mem hjl
     have hpx:=HPOS.out _ hmem
     have HSX:=ι (HWS.out _ hmem)
     have HEX:=ι (HA.out.eps _ hmem)
     have HOS:=ι (c4q mk st.wait st.safe j hjl)
     have HLS:=ι (b7b mk st.wait j hjl)
     have HMX:Hid (mk st.wait[j]=(hasT ts st.wait[j] || decide (st.wait[j].ep<L))):=ι (by rw[HMK.out,HL.out];rfl)
     have hgw:wr.heap[gw]? = w.heap[gw]? := HBG.out gw HGW.out.1.1 (by have:=HGW.out.1.2;omega) HGW.out.2.1 _ HL2.out.touch
     have hinw:InS (· = gw) (.slice (some ⟨gw,0,none⟩) m cw):=fun a n c e _=>by cases e;rfl
     have hwr:wr.rangeAt gw (j * 36) st.wait[j].c:=by
      obtain⟨b1,o1,e1,_,_,_,_,h6⟩:=Rd.chunk Wr.c (Rd.kept (S:=(· = gw)) HWRD.out hinw ⟨HL2.out.touch.size,fun k _ hk=>by rw[hk];exact hgw⟩) HWC.out (by decide) ha
      have e2:gw=b1∧0=o1:=by simpa using e1
      have:=h6 j hjl
      rw[← e2.1,← e2.2,Nat.zero_add] at this
      exact this
     generalize st.wait[j]=x at *
     have hcl:=x.c_len HSX.out
     obtain⟨kp,hkp⟩:∃kp:Nat,x.pos=(kp:Int):=⟨x.pos.toNat,by omega⟩
     have hkn:kp<n:=by have:=hpx.2;omega
     obtain⟨gs,hps⟩:∃gs,ps=some ⟨gs,0,none⟩:=b4o HL2.out.own (by omega)
     subst hps
     have HXC:=ι (show x.c = .int .i64 (kp:Int)::(u8s x.s++[.int .i64 x.kind,.int .i64 x.id,.int .i64 x.ep]) by rw[Wr.c,hkp])
     have HKP:=ι hkp
     have hmap:cw≤maxLen:=HGW.out.2.2.2
     have hmcw:m≤cw:=HGW.out.2.2.1
     have hgl:gw<wr.heap.size:=by have:=HGW.out.2.1;have:=HL2.out.touch.size;omega
     have HWR:=ι hwr
     have HLK:Hid (∀w',Below wr.heap.size wr w'→(Instr.lookup 210 (.map (some w.heap.size)) (.agg #[.int .i64 x.kind,.int .i64 x.id]) true).run Tryz.prog w' = .ok (.tuple #[.agg #[],.bool (hasT ts x)]) w'):=ι fun w' hb=>by
      have h1:=b2f (a2g (S:=fun _=>True) HL2.out.want trivial (Keeps.of_below hb)) HEX.out.2.1 HEX.out.2.2
      rw[h1];rfl
     clear hwr hpx hkp hgw hmem HPOS
     cases hq:hasT ts x
     all_goals (rw[hq] at HLK HMX;clear hq)
     all_goals go_wp2_with (first|(refine b2d rfl (.tmp 43) rfl gw (j * 36) rfl x HSX.out HWR.out ?_)|(refine a9z rfl _ _ rfl rfl wr.heap.size x w0 rfl rfl HSX.out a0i (b4i wr) ?_;intro w3 hx3 hb3;have hbw:=(a0a (Below.refl _ wr) _).trans hb3;clear hb3;have HX3:=ι hx3;obtain⟨_,_,c33,c34,c35⟩:=AtW.parts hx3 HSX.out;clear hx3;have hlk:=HLK.out w3 hbw;obtain⟨_,_,_,_,c35a⟩:=AtW.parts (AtW.later HX3.out (a0a (Below.refl _ w3) (.cells #[] 202))) HSX.out))
     rotate_left
     ·rename_i hnm
      have hmf:mk x=false:=by rw[HMX.out];simp;omega
      have e1:=HOS.out
      have e2:=HLS.out
      rw[outStep,if_neg (by simp[hmf])] at e1
      rw[if_neg (by simp[hmf])] at e2
      refine⟨⟨j+1,by omega,by go_num,ι ?_⟩,by simp[intOf];omega⟩
      rw[e1,e2]
      exact HL2.out.below (hbw.trans ((a0a (Below.refl _ w3) _).mono hbw.size))
     all_goals
      have hmt:mk x=true:=by rw[HMX.out];first|(simp;done)|(simp;omega)
      have e1:=HOS.out
      have e2:=HLS.out
      rw[outStep,if_pos hmt] at e1
      rw[if_pos hmt] at e2
      have HOS1:=ι e1
      have HLS1:=ι e2
      clear e1 e2 HOS HLS HMX HLK
      have HL4:Hid (SeL2 w F z (.slice (some ⟨gs,0,none⟩) n cs) n w2.heap.size w.heap.size ts (outOf mk (st.wait.take j) st.safe) (setl mk st.wait j) (w3.alloc (.cells #[] 202))):=ι (HL2.out.below (hbw.trans ((a0a (Below.refl _ w3) _).mono hbw.size)))
      have hx4:=AtW.parts (AtW.later HX3.out (a0a (Below.refl _ w3) (.cells #[] 202))) HSX.out
      rw[HKP.out] at hx4
      have E0:=ι hx4.1
      have ES:=ι hx4.2.1
      have hxV:wr.heap.size<(w3.alloc (.cells #[] 202)).heap.size:=by rw[size_alloc];have:=(Array.getElem?_eq_some_iff.1 HX3.out).1;omega
      have hgs0:=HL2.out.hvs gs rfl
      have hgV:g<(w3.alloc (.cells #[] 202)).heap.size:=by have:=HL4.out.touch.size;omega
      have hwl:=HL2.out.touch.size
      have hgs1:¬g=gs:=fun e=>by have h1:=hgs0.1.2;rw[← e,HA.out.own.2] at h1;omega
      have hxs1:¬wr.heap.size=gs:=by have:=hgs0.2;omega
      have C1:Hid ((w3.alloc (.cells #[] 202)).cell? ⟨g,1,none⟩=some (.slice (some ⟨gs,0,none⟩) n cs)):=ι (a0c ((HBG.out g HA.out.own.1 (by rw[HA.out.own.2];decide) hlt _ HL4.out.touch).trans HA.out.row) 1 _ rfl)
      have HSO:Hid (Secs (outOf mk (st.wait.take j) st.safe)):=ι (a6x mk _ _ HSS.out fun y hy=>HWS.out y (List.mem_of_mem_take hy))
      have HSOL:Hid ((outOf mk (st.wait.take j) st.safe).length=n):=ι (by rw[a4t];exact HNS.out)
      clear hx4 hgs0 c33 c34 c35 c35a hlk
      generalize w3.alloc (.cells #[] 202)=V at *
      refine wp_region_held_drew (S:=Touch (· = gs) V.drew) (by kernel_rfl) (Touch.refl _ _) (fun hH0 => ?_)
      refine tk 0 rfl ?_
      refine tk 1 rfl ?_
      refine tk 2 rfl ?_
      refine tkv 3 rfl (a0n (by rfl) 28 _ c2o rfl _ rfl g 1 rfl (.slice (some ⟨gs,0,none⟩) n cs) (fun w' hw=>(hw.drewL.cell (p:=⟨g,1,none⟩) hgV hgs1).trans C1.out)) ?_
      refine tk 4 rfl ?_
      refine tkv 5 rfl (a0n (by rfl) 3 _ a4f rfl _ rfl wr.heap.size 0 rfl (.int .i64 (kp:Int)) (fun w' hw=>(hw.drewL.cell (p:=⟨wr.heap.size,0,none⟩) hxV hxs1).trans E0.out)) ?_
      refine tk 6 rfl ?_
      refine tkv 7 rfl (a5p (by rfl) _ rfl wr.heap.size 1 rfl x.s HSX.out.1 (fun w' hw=>hw.drewL.range hxV hxs1 ES.out)) ?_
      refine tk 8 rfl ?_
      refine rd 9 rfl (fun K hK => ?_)
      refine a7c (by rfl) _ _ (by rfl) 0 gs kp n cs (by rfl) x.s (by rfl) HSX.out _ HSO.out (by rw[HSOL.out];exact hkn) HL4.out.own.drew ?_
      intro w6 ho6 ht6
      have HO6:=ι ho6
      have HT6:=ι ht6
      clear ho6
      dsimp only
      have h1:=ht6
      refine hK.out _ _ ?_ (fun hHeld => ?_)
      ·exact ht6
      clear hK K ht6
      try simp only[Act.put,List.setIfInBounds_toArray,List.set_cons_zero,List.set_cons_succ]
      refine wpAnyH_done (by kernel_rfl) ?_ _
      have HT6:=ι HT6.out.drewL
      have HL6:=ι (HL4.out.store HT6.out HO6.out)
      clear hHeld hH0
      clear h1
      have hga:=HL6.out.lt
      have c0:w6.cell? ⟨wr.heap.size,0,none⟩=some (.int .i64 (kp:Int)):=(HT6.out.cell (p:=⟨wr.heap.size,0,none⟩) hxV hxs1).trans E0.out
      have hkl:kp<(setl mk st.wait j).length:=by rw[b0g];omega
      have ca:=a0c HL6.out.row kp _ (ar_at _ kp hkl)
      have za:=a0d HL6.out.row kp
      have hk65:(kp:Int)<65:=by omega
      go_wp2_with fail
      refine⟨⟨j+1,by omega,by go_num,ι ?_⟩,by simp[intOf];omega⟩
      rw[HOS1.out,HLS1.out,HKP.out]
      exact HL6.out.mark kp (j+1)
    ·obtain rfl:j=m:=by omega
     have e1:=HL2.out
     rw[List.take_of_length_le (by rw[HMS.out];omega)] at e1
     have HL3:=ι e1
     have hwl:=HL2.out.touch.size
     have c2:wr.cell? ⟨g,2,none⟩=some (.slice (some ⟨gw,0,none⟩) j cw):=a0c ((HBG.out g HA.out.own.1 (by rw[HA.out.own.2];decide) hlt _ HL2.out.touch).trans HA.out.row) 2 _ rfl
     clear e1 HL2
     have hmcw:j≤cw:=HGW.out.2.2.1
     go_wp2_with fail
     clear c2
     obtain⟨W3,hW3⟩:∃W3,W3=wr:=⟨_,rfl⟩
     subst hW3
     have hl3:=HL3.out.lt
     have hgw0:=HGW.out
     have hgw3:W3.heap[gw]? = w.heap[gw]? := HBG.out gw hgw0.1.1 (by have:=hgw0.1.2;omega) hgw0.2.1 _ HL3.out.touch
     have HLR0:Hid (LeftRow W3 gw cw [] st.wait 0):=ι ((LeftRow.start (B:=0) (by have:=HA.out.wait;rwa [HMS.out] at this)).next hgw3)
     have HLF:Hid (∀i,∀y∈leftUpto mk st.wait i,Sec y.s):=ι fun i y hy=>HWS.out y (a4b mk _ i y hy)
     have HP65:Hid (∀y∈st.wait,0≤y.pos∧y.pos<65):=ι fun y hy=>by have:=HPOS.out y hy;omega
     have hgn:¬w2.heap.size=gw:=by omega
     go_loopw [13,84] (fun lv iv wr=>∃(i nl:Nat),i≤j∧iv = .int .i64 (i:Int)∧lv = .slice (some ⟨gw,0,none⟩) nl cw∧Hid ((leftUpto mk st.wait i).length=nl)∧Hid (LeftRow wr gw cw (leftUpto mk st.wait i) st.wait i)∧Hid (Touch (· = gw) W3 wr)) (fun _ iv _=>j-(intOf iv).toNat)
     case atStart=>exact⟨0,0,by omega,rfl,by simp,ι (by simp[leftUpto]),by simpa [leftUpto] using HLR0,ι (Touch.refl _ _)⟩
     case round =>
      obtain⟨i,nl,hi,rfl,rfl,HNL,HLR,HT3⟩:=hrel
      have hnl:=a5v mk st.wait i
      rw[HNL.out] at hnl
      by_cases hai:i<j
      ·have hai1:(i:Int)<j:=by omega
       have hil:i<st.wait.length:=by rw[HMS.out];exact hai
       have hmem:=List.getElem_mem hil
       have hpx:=HPOS.out _ hmem
       have HSX:=ι (HWS.out _ hmem)
       have HST:=ι (c5j mk st.wait HP65.out i hil)
       have HLS:=ι (a2a mk st.wait i hil)
       have HWR:=ι (HLR.out.range hil)
       have HSK:=ι (fun w' (h:LeftRow w' gw cw (leftUpto mk st.wait i) st.wait i)=>h.skip hil HSX.out)
       have hex:Hid (st.wait[i]=st.wait[i]):=ι rfl
       have HSI:=ι HSX.out
       obtain⟨x,hx⟩:∃x,st.wait[i]=x:=⟨_,rfl⟩
       rw[hx] at HSX HWR hpx HLS HST
       have HX:=ι hx
       clear hx hex hmem
       obtain⟨kp,hkp⟩:∃kp:Nat,x.pos=(kp:Int):=⟨x.pos.toNat,by omega⟩
       have hk65:kp<65:=by have:=hpx.2;omega
       have hk65':(kp:Int)<65:=by omega
       have HXC:=ι hkp
       rw[hkp] at HST
       have HST':Hid (staysB mk st.wait i x=decide ((setl mk st.wait j).getD kp 0≤i)):=ι (by have:=HST.out;rw[HMS.out] at this;exact this)
       have hga2:wr.heap[w2.heap.size]? = W3.heap[w2.heap.size]? := HT3.out.block _ hl3 hgn
       have hs3:=HT3.out.size
       have HGA:Hid (wr.heap[w2.heap.size]? = some (.cells (ar (setl mk st.wait j)) 252 (0,0))):=ι (hga2.trans HL3.out.row)
       have HAT:=ar_at (setl mk st.wait j) kp (by rw[b0g];exact hk65)
       have hsb:=b2u mk st.wait kp j
       obtain⟨sv,hsv⟩:∃sv,(setl mk st.wait j).getD kp 0=sv:=⟨_,rfl⟩
       rw[hsv] at HST' HAT hsb
       have hsi:(sv:Int)≤900:=by omega
       clear hpx hkp HST hsv hga2
       have HA2:=ι HAT
       clear HAT
       by_cases hst:sv≤i
       ·have q1:decide ((sv:Int)≤(i:Int))=true:=by simp;omega
        go_wp2_with (first|(refine b2d rfl (.tmp 87) rfl gw (i * 36) rfl x HSX.out HWR.out ?_)|(refine a9z rfl _ _ rfl rfl wr.heap.size x w0 rfl rfl HSX.out a0i (b4i wr) ?_;intro w3 hx3 hb3;have hbw:=(a0a (Below.refl _ wr) _).trans hb3;clear hb3;have HX3:=ι hx3;obtain⟨c0,_,_,_,_⟩:=AtW.parts hx3 HSX.out;rw[HXC.out] at c0;clear hx3;have ca:=a0c (a1h HGA.out hbw (by omega)) kp _ HA2.out)|(refine b2d rfl (.tmp 15) rfl wr.heap.size 0 rfl x HSX.out HX3.out.range ?_)|(refine a0g elem_wrs (by decide) rfl (.tmp 96) rfl x.c rfl (Wr.c_len HSX.out) ?_)|(at_builtin;refine ap_left rfl (.tmp 95) (.tmp 97) rfl ((HLR.out.below hbw).below (a0a (Below.refl _ w3) _)) hil HSI.out (HLF.out i) (by rw[HNL.out];exact hnl) HX.out nl HNL.out rfl w3.heap.size 1 rfl (AtW.range (heap_alloc_new w3 _)) ?_;intro w4 hl4 ht4;have HL4:=ι hl4;have HT4:=ι ht4;clear hl4 ht4))
        have hz4:=HT4.out.size
        rw[size_alloc] at hz4
        have hb3s:=hbw.size
        have hstay:staysB mk st.wait i x=true:=by rw[HST'.out];simpa using hst
        have e1:=HLS.out
        rw[if_pos hstay] at e1
        refine⟨⟨i+1,nl+1,by omega,by go_num,rfl,ι ?_,ι ?_,ι ?_⟩,by simp[intOf];omega⟩
        ·rw[e1,List.length_append,HNL.out];rfl
        ·rw[e1];exact HL4.out
        ·exact HT3.out.trans ((Touch.of_below (hbw.trans ((a0a (Below.refl _ w3) _).mono hb3s))).trans HT4.out)
       ·have q1:decide ((sv:Int)≤(i:Int))=false:=by simp;omega
        go_wp2_with (first|(refine b2d rfl (.tmp 87) rfl gw (i * 36) rfl x HSX.out HWR.out ?_)|(refine a9z rfl _ _ rfl rfl wr.heap.size x w0 rfl rfl HSX.out a0i (b4i wr) ?_;intro w3 hx3 hb3;have hbw:=(a0a (Below.refl _ wr) _).trans hb3;clear hb3;have HX3:=ι hx3;obtain⟨c0,_,_,_,_⟩:=AtW.parts hx3 HSX.out;rw[HXC.out] at c0;clear hx3;have ca:=a0c (a1h HGA.out hbw (by omega)) kp _ HA2.out))
        have hstay:staysB mk st.wait i x=false:=by rw[HST'.out];simpa using hst
        have e1:=HLS.out
        rw[if_neg (by simp[hstay]),List.append_nil] at e1
        refine⟨⟨i+1,nl,by omega,by go_num,rfl,ι ?_,ι ?_,ι ?_⟩,by simp[intOf];omega⟩
        ·rw[e1,HNL.out]
        ·rw[e1];exact HSK.out _ (HLR.out.below hbw)
        ·exact HT3.out.trans (Touch.of_below hbw)
      ·obtain rfl:i=j:=by omega
       have hs3:=HT3.out.size
       have hgg:¬g=gw:=fun e=>by have h1:=hgw0.1.2;rw[← e,HA.out.own.2] at h1;omega
       have hrow:wr.heap[g]? = some (.cells #[.pointer (some ⟨g,0,none⟩),.slice ps n cs,.slice (some ⟨gw,0,none⟩) i cw,vn,.int .i64 st.ep,vl,.int .i64 st.asked,vf] 96 (0,0)):=(HT3.out.block g (by omega) hgg).trans ((HBG.out g HA.out.own.1 (by rw[HA.out.own.2];decide) hlt _ HL3.out.touch).trans HA.out.row)
       have c2:wr.cell? ⟨g,2,none⟩=some (.slice (some ⟨gw,0,none⟩) i cw):=a0c hrow 2 _ rfl
       have z2:=a0d hrow 2
       have HROW:=ι hrow
       clear hrow
       go_wp2_with fail
       go_end0
       have hns:=HNS.out
       have hms:=HMS.out
       subst hns
       subst hms
       have HSC:settle st.safe st.wait ts=(outOf mk st.wait st.safe,leftUpto mk st.wait st.wait.length):=by rw[HMK.out];exact settleC _ _ _ fun y hy=>(HA.out.eps y hy).1
       have hseen:=a9v st.safe st.wait ts fun y hy=>(HPOS.out y hy).1
       rw[HSC] at hseen ⊢
       obtain⟨es,he⟩:=HA.out.log
       have h34:Touch (fun b=>F b∧(z b=0∨z b=2)) W3 (wr.setCell ⟨g,2,none⟩ (.slice (some ⟨gw,0,none⟩) nl cw)):=Touch.setCell (HT3.out.mono fun b hb=>by rw[hb];exact⟨hgw0.1.1,Or.inr hgw0.1.2⟩) ⟨g,2,none⟩ ⟨HA.out.own.1,Or.inl HA.out.own.2⟩ _
       have hT:Touch (fun b=>F b∧(z b=0∨z b=1∨z b=2)) w (wr.setCell ⟨g,2,none⟩ (.slice (some ⟨gw,0,none⟩) nl cw)):=(HL3.out.touch.mono fun b hb=>⟨(HA.out.safeS b hb).1,Or.inr (Or.inl (HA.out.safeS b hb).2)⟩).trans (h34.mono fun b hb=>⟨hb.1,by have:=hb.2;omega⟩)
       have off:∀k,3≤k→Keeps (Zn F z k) w (wr.setCell ⟨g,2,none⟩ (.slice (some ⟨gw,0,none⟩) nl cw)):=fun k hk=>hT.keeps fun b hb hb2=>by have h1:=hb.2;have h2:=hb2.2;omega
       have hol:(outOf mk st.wait st.safe).length=st.safe.length:=a4t _ _ _
       refine⟨rfl,.slice (some ⟨gw,0,none⟩) nl cw,⟨a0e HROW.out _,HA.out.own,?_,HA.out.safeS,?_,HA.out.waitS,?_,HA.out.seenS,⟨es,a6q he HA.out.logS (off 4 (by decide)) (off 6 (by decide))⟩,HA.out.logS,a2u HA.out.faults (off 5 (by decide)),?_⟩,hT⟩
       ·show Own _ 0 _ 32 _ (outOf mk st.wait st.safe).length (cellsOf (outOf mk st.wait st.safe))
        rw[hol]
        exact a0o HL3.out.own HA.out.safeS (h34.keeps fun b hb hb2=>by have h1:=hb.2;have h2:=hb2.2;omega)
       ·show Own _ 0 _ 36 _ (leftUpto mk st.wait st.wait.length).length (wrsC (leftUpto mk st.wait st.wait.length))
        have h1:=HLR.out.own (HLF.out _) (by rw[HNL.out];exact hnl) hgw0.2.2.1 hgw0.2.2.2
        rw[HNL.out] at h1 ⊢
        exact a2p h1 fun g' m' c' e=>by cases e;exact fun e2=>hgg e2.symm
       ·show Own _ 0 _ 32 _ (outOf mk st.wait st.safe).length (cellsOf (outOf (fun _=>true) (leftUpto mk st.wait st.wait.length) (outOf mk st.wait st.safe)))
        rw[hol]
        have h1:=a0o HA.out.seen HA.out.seenS (off 3 (by decide))
        rw[seenOf] at h1
        dsimp only at hseen
        rw[hseen]
        exact h1
       ·exact fun y hy=>HA.out.eps y (a4b mk _ _ y hy)
end dsk
namespace dsk
set_option maxRecDepth 100000
open Go.ChangeShapes Go.WideShapes Go.ChangeAt Go.RowKit
open rows
open sec
open Go.Maps
set_option maxHeartbeats 3200000 in
set_option maxRecDepth 100000 in
theorem b9g(w:World)(F:Nat→Prop)(z:Nat→Nat)(g:Nat)(st:St)(vs vn vl vf:Value)(h:CodeAt w F z g st vs (.slice none 0 0) vn vl vf)(hw0:st.wait=[])(hf:Mild st)(p:Option Addr)(q c:Nat)(ts:List (Int×Int))
  (ht:Rd w 2 (.slice p q c) q (tagsC ts)) (hti:InS (fun b=>¬F b) (.slice p q c)) (hq:q≤50) (hwt:∀t∈ts,wf64 t.1∧wf64 t.2) :
  Calls Tryz.prog 138 #[.pointer (some ⟨g,0,none⟩),.slice p q c] w fun e w'=>e = .returned (.tuple #[])∧∃vw',CodeAt w' F z g { st with safe:=(settle st.safe st.wait ts).1,wait:=(settle st.safe st.wait ts).2 } vs vw' vn vl vf∧Touch (fun b=>F b∧(z b=0∨z b=1∨z b=2)) w w':=by
 have hql:ts.length=q:=Rd.count tagC ht (fun x _=>rfl) (by decide)
 have HQL:=ι hql
 have HTG:=ι ht
 have HTI:=ι hti
 have HWT:=ι hwt
 have HA:=ι h
 have HFI:=ι hf
 have hq1:(q:Int)≤50:=by omega
 have hmm:=fun w=>a6b a4o q (by omega) w
 have hlt:=h.lt
 have HW00:=ι hw0
 clear hql ht hti hwt h hf hw0
 go_enter Tryz.func138,Tryz.ntmps138
 go_wp2_with fail
 obtain⟨W1,hW1⟩:∃W1,W1=w.alloc (.map #[] 0):=⟨_,rfl⟩
 have HB1:Hid (Below w.heap.size w W1):=ι (by rw[hW1];exact a0a (Below.refl _ w) _)
 have hs1:W1.heap.size=w.heap.size+1:=by rw[hW1,size_alloc]
 have HW0:Hid (∃D:DataW Unit,W1.ownsMap Tryz.prog 101 unitElem w.heap.size 0 D∧∀k i:Int,wf64 k→wf64 i→Maps.has D (tagL k i)=decide ((k,i)∈ts.take 0)):=by
  rw[hW1]
  exact ι ⟨.map [],World.ownsMap_made _ _ _ _,fun _ _ _ _=>by simp[Maps.has]⟩
 rw[← hW1]
 clear hW1
 go_loopw [21] (fun iv wr=>∃(jt:Nat),jt≤q∧iv = .int .i64 (jt:Int)∧Hid (Below w.heap.size w wr)∧w.heap.size+1≤wr.heap.size∧Hid (∃D:DataW Unit,wr.ownsMap Tryz.prog 101 unitElem w.heap.size jt D∧∀k i:Int,wf64 k→wf64 i→Maps.has D (tagL k i)=decide ((k,i)∈ts.take jt))) (fun iv _=>q-(intOf iv).toNat)
 case atStart=>exact⟨0,by omega,rfl,HB1,by omega,HW0⟩
 case round =>
  clear HW0 HB1
  obtain⟨jt,hj,rfl,HB,hsr,HO⟩:=hrel
  by_cases ha:jt<q
  ·have ha1:(jt:Int)<q:=by omega
   have hjl:jt<ts.length:=by rw[HQL.out];exact ha
   obtain⟨b1,o1,rfl,hc1,hm1,hh1,hl1,HR1⟩:=Rd.chunk tagC HTG.out (fun x _=>rfl) (by decide) ha
   have hr1:=Rd.rangeLater (HR1 jt hjl) hh1 HB.out
   have HX:Hid (ts[jt]=(ts[jt].1,ts[jt].2)):=ι rfl
   have hwx:=HWT.out _ (List.getElem_mem hjl)
   obtain⟨D,hD,hhas⟩:=HO.out
   have HH:=ι hhas
   have HMORE:Hid (∀(k i:Int) (w':World),ts[jt]=(k,i)→wf64 k→wf64 i→w'.ownsMap Tryz.prog 101 unitElem w.heap.size (jt+1) (D.put (tagL k i) (.agg []))→(∃D:DataW Unit,w'.ownsMap Tryz.prog 101 unitElem w.heap.size (jt+1) D∧∀k i:Int,wf64 k→wf64 i→Maps.has D (tagL k i)=decide ((k,i)∈ts.take (jt+1)))):=ι fun k i w' e hk hi h=>b1c hjl e hk hi hD HH.out h
   generalize ts[jt]=x at *
   obtain⟨x1,x2⟩:=x
   have HWX:=ι hwx
   have hx1:=hr1 0 _ rfl
   have hx2:=hr1 1 _ rfl
   rw[Nat.add_zero] at hx1
   clear HR1 hl1 hr1 hwx hhas HO
   have hDa:(wr.alloc (.cells #[.int .i64 x1,.int .i64 x2] 101)).ownsMap Tryz.prog 101 unitElem w.heap.size jt D:=by
    obtain⟨es,clock,he,r⟩:=hD
    exact⟨es,clock,a4u he _,r⟩
   go_wp2_with (at_mapUpdate;refine wpList_mapUpdate_own _ rfl _ _ _ 210 rfl 101 202 key_tag a4o unitElem w.heap.size jt D rfl hDa (by unfold maxLen;omega) _ _ (tagL x1 x2) rfl rfl (a6g HWX.out.1 HWX.out.2) (.agg []) [] unitElem_mk ?_;intro w3 hown3 hgrow3)
   have hB3:Below w.heap.size w w3:=by
    have h1:Below w.heap.size w (wr.alloc (.cells #[.int .i64 x1,.int .i64 x2] 101)):=a0a HB.out _
    exact h1.trans ⟨hgrow3.os,hgrow3.tape,hgrow3.output,hgrow3.size,fun k hk=>hgrow3.block k (by have:=h1.size;omega) (fun e=>by injection e;omega)⟩
   have hs3:=hgrow3.size
   rw[size_alloc] at hs3
   go_roundw
   case rel=>exact⟨jt+1,by omega,by go_num,ι hB3,by omega,ι (HMORE.out x1 x2 w3 HX.out HWX.out.1 HWX.out.2 hown3)⟩
   case measure=>simp[intOf];omega
  ·obtain rfl:jt=q:=by omega
   have HW1:Hid (Wanted wr w.heap.size ts):=ι (by
    obtain⟨D,hD,hh⟩:=HO.out
    rw[List.take_of_length_le (by rw[HQL.out];omega)] at hh
    exact⟨jt,D,by rw[HQL.out];exact Nat.le_refl _,hD,hh⟩)
   clear HO
   have hrg:=a1h HA.out.row HB.out hlt
   have c2:wr.cell? ⟨g,2,none⟩=some (.slice none 0 0):=a0c hrg 2 _ rfl
   have HRG:=ι hrg
   have HAR:=ι (a1m HA.out (Keeps.of_below HB.out))
   have HCL:=ι (clast wr none 0 0 w.heap.size [] ts (a6a wr 36) (fun x hx=>by cases hx) (fun x hx=>by cases hx) (by omega) HW1.out)
   clear hrg
   go_upto_region 7 with(go_at_call 177;refine HCL.out.mono ?_;rintro e w2 ⟨rfl,hb2⟩)
   have hz:=d0s (fun _=>true) []
   have c2b:(w2.alloc (.cells (ar (setl (fun _=>true) [] 0)) 252)).cell? ⟨g,2,none⟩=some (.slice none 0 0):=a0c (a4u (a1h HRG.out hb2 (by have:=HB.out.size;omega)) _) 2 _ rfl
   have hb3:=a0a (HB.out.trans (hb2.mono HB.out.size)) (.cells (ar (setl (fun _=>true) [] 0)) 252)
   have HB3:=ι hb3
   clear hb2 HCL c2 hb3
   obtain⟨L,hL⟩:∃L,lastE ts ([]:List Wr)=L:=⟨_,rfl⟩
   rw[hL]
   first
   | (go_wp2_with fail;rw[hz];simp only[Result.andThen_ok])
   | (go_upto_region 8 with fail)
   clear hz hL
   generalize w2.alloc (.cells (ar (setl (fun _=>true) [] 0)) 252)=W2 at *
   go_wp2_with fail
   go_loopw [40] (fun iv wr=>iv = .int .i64 0∧wr=W2) (fun iv _=>0)
   case atStart=>exact⟨rfl,rfl⟩
   case round =>
    obtain⟨rfl,rfl⟩:=hrel
    go_wp2_with fail
    go_loopw [13,84] (fun lv iv wr'=>lv = .slice none 0 0∧iv = .int .i64 0∧Hid (wr'=wr)) (fun _ iv _=>0)
    case atStart=>exact⟨rfl,rfl,ι rfl⟩
    case round =>
     obtain⟨rfl,rfl,HE⟩:=hrel
     have hrw:wr.heap[g]? = some (.cells #[.pointer (some ⟨g,0,none⟩),vs,.slice none 0 0,vn,.int .i64 st.ep,vl,.int .i64 st.asked,vf] 96 (0,0)):=by rw[HE.out];exact a1h HA.out.row HB3.out hlt
     have c2d:wr.cell? ⟨g,2,none⟩=some (.slice none 0 0):=a0c hrw 2 _ rfl
     have z2:=a0d hrw 2
     have HROW:=ι hrw
     clear hrw c2b
     go_wp2_with fail
     go_end0
     have hws:=HW00.out
     have HSC:settle st.safe st.wait ts=(st.safe,[]):=by rw[hws];rfl
     rw[HSC]
     obtain⟨es,he⟩:=HA.out.log
     have hT:Touch (fun b=>F b∧(z b=0∨z b=1∨z b=2)) w (wr.setCell ⟨g,2,none⟩ (.slice none 0 0)):=Touch.setCell (Touch.of_below (by rw[HE.out];exact HB3.out)) ⟨g,2,none⟩ ⟨HA.out.own.1,Or.inl HA.out.own.2⟩ _
     have hk:Keeps (fun b=>b≠g) w (wr.setCell ⟨g,2,none⟩ (.slice none 0 0)):=(Keeps.of_below (by rw[HE.out];exact HB3.out)).trans (Keeps.set (fun k hk=>hk) _)
     have off:∀k,1≤k→Keeps (Zn F z k) w (wr.setCell ⟨g,2,none⟩ (.slice none 0 0)):=fun k hk2=>hk.mono fun b hb e=>by have h1:=hb.2;rw[e,HA.out.own.2] at h1;omega
     refine⟨rfl,.slice none 0 0,⟨a0e HROW.out _,HA.out.own,a0o HA.out.safe HA.out.safeS (off 1 (by decide)),HA.out.safeS,a2q _ _ _ _,HA.out.waitS,?_,HA.out.seenS,⟨es,a6q he HA.out.logS (off 4 (by decide)) (off 6 (by decide))⟩,HA.out.logS,a2u HA.out.faults (off 5 (by decide)),fun y hy=>by cases hy⟩,hT⟩
     have h1:=a0o HA.out.seen HA.out.seenS (off 3 (by decide))
     rw[seenOf,hws] at h1
     exact h1
end dsk
namespace dsk
set_option maxRecDepth 100000
open Go.ChangeShapes Go.WideShapes Go.ChangeAt Go.RowKit
open rows
open sec
open Go.Maps
theorem b9v(w:World)(F:Nat→Prop)(z:Nat→Nat)(g:Nat)(st:St)(vs vw vn vl vf:Value)(h:CodeAt w F z g st vs vw vn vl vf)(hf:Mild st)(p:Option Addr)(q c:Nat)(ts:List (Int×Int))
  (ht:Rd w 2 (.slice p q c) q (tagsC ts)) (hti:InS (fun b=>¬F b) (.slice p q c)) (hq:q≤50) (hwt:∀t∈ts,wf64 t.1∧wf64 t.2) :
  Calls Tryz.prog 138 #[.pointer (some ⟨g,0,none⟩),.slice p q c] w fun e w'=>e = .returned (.tuple #[])∧∃vw',CodeAt w' F z g { st with safe:=(settle st.safe st.wait ts).1,wait:=(settle st.safe st.wait ts).2 } vs vw' vn vl vf∧Touch (fun b=>F b∧(z b=0∨z b=1∨z b=2)) w w':=by
 obtain⟨pw,cw,rfl⟩:=h.wait.slice
 cases pw with
 | none =>
  have h0:(Value.slice none st.wait.length cw) = .slice none 0 0∧st.wait=[]:=by
   rcases h.wait.2 with⟨h1,h2⟩|⟨g',cap,cur,h1,_⟩
   ·exact⟨h1,List.eq_nil_of_length_eq_zero h2⟩
   ·cases h1
  rw[h0.1] at h
  exact b9g w F z g st vs vn vl vf h h0.2 hf p q c ts ht hti hq hwt
 | some a =>
  have h0:∃gw,a=⟨gw,0,none⟩:=by
   rcases h.wait.2 with⟨h1,h2⟩|⟨g',cap,cur,h1,_⟩
   ·cases h1
   ·cases h1;exact⟨g',rfl⟩
  obtain⟨gw,rfl⟩:=h0
  exact csettle w F z g st vs vn vl vf gw cw h hf p q c ts ht hti hq hwt
theorem d3a(w:World)(F:Nat→Prop)(d:Value)(st:St)(p:Option Addr)(q c:Nat)(h:CA w F d st)(hf:st.fine)(hd:asks st=true) :
  Calls Tryz.prog 85 #[d,.slice p q c] w (CodeDone CA F d w (3,st.asked1)):=by
 obtain⟨z,g,vs,vw,vn,vl,vf,rfl,h⟩:=h
 have HM:=ι (cmade g w (a0c h.row 0 _ rfl))
 have HF:=ι (ccount F z g st vs vw vn vl vf w h ⟨hf.few.as0,by have:=hf.few.as1;omega⟩)
 unfold CountDone at HF
 rw[hd] at HF
 clear h hf hd
 go_enter Tryz.func85,Tryz.ntmps85
 go_wp2_with (first|(go_at_call 48;refine HM.out.mono ?_;rintro e w0 ⟨rfl,rfl⟩)|(go_at_call 127;refine HF.out.mono ?_;rintro e w1 ⟨rfl,hc,ht⟩;have HC:=ι hc;have HT:=ι ht;clear hc ht))
 go_ret
 exact a6m HC.out HT.out
set_option maxHeartbeats 3200000 in
theorem c8j(w:World)(F:Nat→Prop)(d:Value)(st:St)(p:Option Addr)(q c:Nat)(ts:List (Int×Int))(h:CA w F d st)(hf:st.fine)(ht:Rd w 2 (.slice p q c) q (tagsC ts))(hti:InS (fun b=>¬F b) (.slice p q c))(hq:q≤50)(hwt:∀t∈ts,wf64 t.1∧wf64 t.2)(hd:asks st=false) :
  Calls Tryz.prog 85 #[d,.slice p q c] w (CodeDone CA F d w (0,{ st with safe:=(settle st.safe st.wait ts).1,wait:=(settle st.safe st.wait ts).2,asked:=st.asked+1,log:=st.log++[(2,w0,ts)] })):=by
 obtain⟨z,g,vs,vw,vn,vl,vf,rfl,h⟩:=h
 have HM:=ι (cmade g w (a0c h.row 0 _ rfl))
 have HF:=ι (ccount F z g st vs vw vn vl vf w h ⟨hf.few.as0,by have:=hf.few.as1;omega⟩)
 unfold CountDone at HF
 rw[hd] at HF
 have HTG:=ι ht
 have HTI:=ι hti
 have HQL:=ι (Rd.count tagC ht (fun x _=>rfl) (by decide))
 have HST:=ι fun w1 (hc:CodeAt w1 F z g st.asked1 vs vw vn vl vf) (h1:Rd w1 2 (.slice p q c) q (tagsC ts))=>b9v w1 F z g st.asked1 vs vw vn vl vf hc hf.mild p q c ts h1 hti hq hwt
 have hln:=hf.few.ln
 have HTO:Hid (∀u∈tagsC ts,u.oneCell'=true):=ι (fun u hu=>by
  obtain⟨l,hl,hul⟩:=List.mem_flatten.1 hu
  obtain⟨x,_,rfl⟩:=List.mem_map.1 hl
  simp only[tagC,List.mem_cons,List.not_mem_nil,or_false] at hul
  rcases hul with rfl|rfl<;>rfl)
 clear h hf hd ht hti hwt
 go_enter Tryz.func85,Tryz.ntmps85
 go_wp2_with (first|(go_at_call 48;refine HM.out.mono ?_;rintro e w0 ⟨rfl,rfl⟩)|(go_at_call 127;refine HF.out.mono ?_;rintro e w1 ⟨rfl,hc,ht⟩;have HC:=ι hc;have HT:=ι ht;clear hc ht))
 refine(HST.out _ HC.out (Rd.kept HTG.out HTI.out (HT.out.keeps fun k hk hk2=>hk hk2.1))).mono ?_
 rintro e w2 ⟨rfl,vw',hc2,ht2⟩
 obtain⟨es,hes⟩:=hc2.log
 obtain⟨pl,cl,hvl⟩:=hes.own.slice
 subst hvl
 have HC2:=ι hc2
 have HT2:=ι ht2
 have HES:=ι hes
 have HLO:=ι hes.own
 have HTG2:Hid (Rd w2 2 (.slice p q c) q (tagsC ts)):=ι (Rd.kept HTG.out HTI.out ((HT.out.keeps fun k hk hk2=>hk hk2.1).trans (ht2.keeps fun k hk hk2=>hk hk2.1)))
 have hlt2:=hc2.lt
 have hgz:=hc2.own
 have hlz:∀k,(Value.slice pl st.log.length cl).ownBlock=some k→Zn F z 4 k:=hc2.logS
 have hlng:∀k,(Value.slice pl st.log.length cl).ownBlock=some k→k≠g:=fun k hk=>zne (hlz k hk) hgz (by decide)
 have C5:Hid (w2.cell? ⟨g,5,none⟩=some (.slice pl st.log.length cl)):=ι (a0c hc2.row 5 _ rfl)
 have HR2:=ι hc2.row
 clear hc2 ht2 hes
 go_wp2_with fail
 have h0:Touch (fun b=>(Value.slice pl st.log.length cl).ownBlock=some b) w2.drew w2.drew:=Touch.refl _ _
 refine a4g (S:=Touch (fun b=>(Value.slice pl st.log.length cl).ownBlock=some b) w2.drew) 12 (by kernel_rfl) (Touch.refl _ _) (fun hH0 => ?_)
 refine tl 0 rfl ?_
 refine tl 1 rfl ?_
 refine tl 2 rfl ?_
 refine tl 3 rfl ?_
 refine tlv 4 rfl (a0n (by rfl) 44 _ d1e rfl _ rfl g 5 rfl (.slice pl st.log.length cl) (fun w' hw=>(hw.drewL.cell (p:=⟨g,5,none⟩) hlt2 (fun e=>hlng _ e rfl)).trans C5.out)) ?_
 refine tl 5 rfl ?_
 refine a0t (rs:=[6]) (by kernel_rfl) (by simp) ?_
 refine AllReadyL.cons (o:={ dst:=some 19,op:=Op.call { callee:=Callee.value (Operand.func 95),args := #[Operand.tmp 18],argTypes := #[104] },type:=104,pos := "bdisk.go:88", after := #[{ on:=5,ground:=Ground.data }],guard:=none }) rfl (fun K hK => ?_) AllReadyL.nil
 go_simp
 refine(c6a p q c (tagsC ts) w2.drew (HTG2.out.later (Below.refl _ _).drew) HTO.out (by omega)).mono ?_
 rintro e w3 ⟨pt,ct,rfl,ho3,hb3⟩
 have HO3:=ι ho3
 have HB3:=ι hb3
 have h1:Touch (fun b=>(Value.slice pl st.log.length cl).ownBlock=some b) w2.drew w3:=Touch.of_below hb3
 dsimp only
 refine hK.out _ _ (Or.inr h1) (fun hHeld => ?_)
 clear hK K ho3
 try simp only[Act.put,List.setIfInBounds_toArray,List.set_cons_zero,List.set_cons_succ]
 refine tlv 7 rfl (a6c (by rfl) 106 _ rfl [(0,.int .i64 2),(2,.slice pt q ct)] rfl _ (c7l ts (.slice pt q ct) rfl)) ?_
 refine a0t (rs:=[8]) (by kernel_rfl) (by simp) ?_
 refine AllReadyL.cons (o:={ dst:=some 21,op:=Op.buildSlice 44 1 #[(0,Operand.tmp 20)],type:=44,pos := "bdisk.go:88", after := #[{ on:=7,ground:=Ground.data }],guard:=none }) rfl (fun K hK => ?_) AllReadyL.nil
 refine b4f a6i (by decide) (by rfl) _ rfl (evC (2,w0,ts) (.slice pt q ct)) rfl (b4u a0i) ?_
 intro b8 w8 hb8 hrd8 hbel8
 have HRD8:=ι hrd8
 have HB8:=ι (hb3.trans (hbel8.mono hb3.size))
 have HB8':=ι hbel8
 have h2:Touch (fun b=>(Value.slice pl st.log.length cl).ownBlock=some b) w2.drew w8:=Touch.of_below HB8.out
 refine hK.out _ _ (Or.inr h2) (fun hHeld => ?_)
 clear hK K hrd8
 try simp only[Act.put,List.setIfInBounds_toArray,List.set_cons_zero,List.set_cons_succ]
 refine a0t (rs:=[9]) (by kernel_rfl) (by simp) ?_
 refine AllReadyL.cons (o:={ dst:=some 22,op:=Op.call { callee:=Callee.builtin Builtin.append,args := #[Operand.tmp 17,Operand.tmp 21],argTypes := #[44,44] },type:=44,pos := "bdisk.go:88", after := #[{ on:=4,ground:=Ground.data },{ on:=8,ground:=Ground.data },{ on:=6,ground:=Ground.chain }],guard:=none }) rfl (fun K hK => ?_) AllReadyL.nil
 refine b4e a6i (by rfl) _ _ rfl (.slice pl st.log.length cl) st.log.length _ (by rfl) (a1g HLO.out.drew HB8.out) _ 1 (evC (2,w0,ts) (.slice pt q ct)) (by rfl) HRD8.out (b5h _ _ rfl) (by omega) ?_
 intro pr cr w9 ho9 ht9 hloc9
 have HO9:=ι ho9
 have HLOC9:=ι hloc9
 have HT89:=ι ht9
 have h3:=h2.trans ht9
 have HT9:=ι h3
 refine hK.out _ _ (Or.inr h3) (fun hHeld => ?_)
 clear hK K ho9 hloc9
 try simp only[Act.put,List.setIfInBounds_toArray,List.set_cons_zero,List.set_cons_succ]
 refine a0t (rs:=[10]) (by kernel_rfl) (by simp) ?_
 refine AllReadyL.cons (o:={ dst:=some 23,op:=Op.nilCheck (Operand.tmp 13),type:=0,pos := "bdisk.go:88", after := #[{ on:=0,ground:=Ground.data },{ on:=0,ground:=Ground.phase },{ on:=1,ground:=Ground.phase },{ on:=2,ground:=Ground.phase },{ on:=3,ground:=Ground.phase },{ on:=4,ground:=Ground.phase },{ on:=5,ground:=Ground.phase },{ on:=6,ground:=Ground.phase },{ on:=7,ground:=Ground.phase },{ on:=8,ground:=Ground.phase },{ on:=9,ground:=Ground.phase }],guard:=none }) rfl (fun K hK => ?_) AllReadyL.nil
 go_simp
 refine hK.out _ _ (Or.inr (by assumption)) (fun hHeld => ?_)
 clear hK K
 try simp only[Act.put,List.setIfInBounds_toArray,List.set_cons_zero,List.set_cons_succ]
 refine tl 11 rfl ?_
 refine a0t (rs:=[12]) (by kernel_rfl) (by simp) ?_
 refine AllReadyL.cons (o:={ dst:=none,op:=Op.store 44 (Operand.tmp 24) (Operand.tmp 22),type:=0,pos := "bdisk.go:88", after := #[{ on:=11,ground:=Ground.data },{ on:=9,ground:=Ground.data },{ on:=9,ground:=Ground.chain },{ on:=0,ground:=Ground.phase },{ on:=1,ground:=Ground.phase },{ on:=2,ground:=Ground.phase },{ on:=3,ground:=Ground.phase },{ on:=4,ground:=Ground.phase },{ on:=5,ground:=Ground.phase },{ on:=6,ground:=Ground.phase },{ on:=7,ground:=Ground.phase },{ on:=8,ground:=Ground.phase },{ on:=9,ground:=Ground.phase }],guard:=none }) rfl (fun K hK => ?_) AllReadyL.nil
 have HR9:=ι (a2n HR2.out HT9.out.drewL (fun e=>hlng g e rfl))
 have c12:=a0c HR9.out 5 (.slice pl st.log.length cl) rfl
 have z12:=a0d HR9.out 5
 go_simp
 refine hK.out _ _ (Or.inl rfl) (fun hHeld => ?_)
 clear hK K c12 z12
 try simp only[Act.put,List.setIfInBounds_toArray,List.set_cons_zero,List.set_cons_succ]
 refine a7o (by kernel_rfl) ?_ _
 obtain⟨W9,hW9⟩:∃W9,W9=w9.setCell ⟨g,5,none⟩ (.slice pr (st.log.length+1) cr):=⟨_,rfl⟩
 have s23:w2.heap.size≤w3.heap.size:=HB3.out.size
 have s28:w2.heap.size≤w8.heap.size:=HB8.out.size
 have s38:=HB8'.out.size
 have s89:=HT89.out.size
 have T29:Touch (fun b=>F b∧(z b=0∨z b=4)) w2 W9:=by rw[hW9];exact Touch.setCell (HT9.out.drewL.mono fun b hb=>⟨(hlz b hb).1,Or.inr (hlz b hb).2⟩) ⟨g,5,none⟩ ⟨hgz.1,Or.inl hgz.2⟩ _
 have hrow:W9.heap[g]? = some (.cells #[.pointer (some ⟨g,0,none⟩),vs,vw',vn,.int .i64 st.ep,.slice pr (st.log.length+1) cr,.int .i64 (st.asked+1),vf] 96 (0,0)):=by rw[hW9];exact a0e HR9.out _
 have hlog:Own W9 0 106 38 (.slice pr (st.log.length+1) cr) (st.log.length+1) (((st.log.zip es).map fun x=>evC x.1 x.2).flatten++evC (2,w0,ts) (.slice pt q ct)):=by
  rw[hW9]
  refine a2p HO9.out fun b mm c hv e => ?_
  have hb:(Value.slice pr (st.log.length+1) cr).ownBlock=some b:=by rw[hv];rfl
  rcases HLOC9.out b hb with h|⟨h,_⟩
  ·exact hlng b h e
  ·omega
 have hti3:=b9t HO3.out
 have htr9:Rd W9 2 (.slice pt q ct) q (tagsC ts):=by
  have k38:Keeps (fun k=>w2.heap.size≤k) w3 w8:=Keeps.of_below HB8'.out
  have k89:Keeps (fun k=>w2.heap.size≤k) w8 w9:=HT89.out.keeps fun k hk e=>by have:=a2x HLO.out e;omega
  have k9:Keeps (fun k=>w2.heap.size≤k) w9 W9:=by rw[hW9];exact Keeps.set (fun k hk=>by omega) _
  exact Rd.kept (S:=fun k=>w2.heap.size≤k) HO3.out.rd (hti3.mono fun b hb=>hb.1) (k38.trans (k89.trans k9))
 have s9:W9.heap.size=w9.heap.size:=by rw[hW9,a2f]
 have hfin:=b3c (ev:=(2,w0,ts)) (t := .slice pt q ct) (ep:=st.ep) (z':=fun b=>if b<w2.heap.size then z b else if b<w3.heap.size then 6 else 4) HC2.out HES.out T29 (fun b hb=>hb) (fun b hb=>if_pos hb) hrow hlog
  (fun k hk=>by
   rcases HLOC9.out k hk with h|⟨h,h2⟩
   ·exact Or.inl h
   ·exact Or.inr ⟨by omega,by rw[s9];exact h2,by rw[if_neg (by omega),if_neg (by omega)]⟩)
  (by
   rw[show ((2:Int),w0,ts).2.2=ts from rfl,HQL.out]
   exact⟨pt,ct,rfl,htr9,hti3.mono fun b hb=>⟨Or.inr ⟨hb.1,by omega⟩,by
    have h1:w2.heap.size≤b:=hb.1
    dsimp only
    rw[if_neg (by omega),if_pos hb.2]⟩⟩)
 have hTT:Touch F w W9:=((HT.out.mono fun b hb=>hb.1).trans (HT2.out.mono fun b hb=>hb.1)).trans (T29.mono fun b hb=>hb.1)
 have HD:CodeDone CA F (.pointer (some ⟨g,0,none⟩)) w (0,{ st with safe:=(settle st.safe st.wait ts).1,wait:=(settle st.safe st.wait ts).2,asked:=st.asked+1,log:=st.log++[(2,w0,ts)] }) (.returned (.int .i64 0)) W9:=by
  refine⟨rfl,⟨_,g,_,_,_,_,vf,rfl,hfin.wider (fun b hb => ?_) (fun _ _=>rfl)⟩,hTT⟩
  have s1:=HT.out.size
  have s2:=HT2.out.size
  rcases hb with h|⟨h4,h5⟩
  ·exact Or.inl h
  ·exact Or.inr ⟨by omega,h5⟩
 rw[hW9] at HD
 clear hfin
 go_wp2_with fail
 go_ret
 exact HD
theorem csync(w:World)(F:Nat→Prop)(d:Value)(st:St)(p:Option Addr)(q c:Nat)(ts:List (Int×Int))(h:CA w F d st)(hf:st.fine)(ht:Rd w 2 (.slice p q c) q (tagsC ts))(hti:InS (fun b=>¬F b) (.slice p q c))(hq:q≤50)(hwt:∀t∈ts,wf64 t.1∧wf64 t.2) :
  Calls Tryz.prog 85 #[d,.slice p q c] w (CodeDone CA F d w (syncR st ts)):=by
 by_cases ha:asks st=true
 ·have e:syncR st ts=(3,st.asked1):=by rw[syncR,if_pos ha]
  rw[e]
  exact d3a w F d st p q c h hf ha
 ·have e:syncR st ts=(0,{ st with safe:=(settle st.safe st.wait ts).1,wait:=(settle st.safe st.wait ts).2,asked:=st.asked+1,log:=st.log++[(2,w0,ts)] }):=by rw[syncR,if_neg ha]
  rw[e]
  exact c8j w F d st p q c ts h hf ht hti hq hwt (by simpa using ha)
end dsk
namespace dsk
set_option maxRecDepth 100000
open Go.ChangeShapes Go.WideShapes Go.ChangeAt Go.RowKit
open rows
open sec
open Go.Maps
set_option maxHeartbeats 1600000 in
theorem b1d(w:World)(p:Option Addr)(n c:Nat)(ss:List (List Int))(hs:Secs ss)(h:Rd w 32 (.slice p n c) n (cellsOf ss))(h1:1≤n)(h2:n≤65):Calls Tryz.prog 30 #[.slice p n c] w fun e w'=>∃ad,e = .returned (.tuple #[.pointer (some ad),.int .i64 0])∧CA w' (fun b=>w.heap.size≤b∧b<w'.heap.size) (.pointer (some ad)) (st0 ss)∧Below w.heap.size w w':=by
 have HP:=ι (fun w=>cpossible (n:Int) w (WalkArith.wf_i64 (by omega)))
 rw[decide_eq_true (show 1≤(n:Int)∧(n:Int)≤65 by omega)] at HP
 have hsl:ss.length=n:=by have:=h.cells;rw[a0r hs] at this;omega
 have HSL:=ι hsl
 have HS1:Hid (∀u∈cellsOf ss,u.oneCell'=true):=ι (by rw[a3v];intro u hu;obtain⟨l,hl,hul⟩:=List.mem_flatten.1 hu;obtain⟨x,_,rfl⟩:=List.mem_map.1 hl;exact a1y .u8 x u hul)
 have HC1:=ι (b2p p n c (cellsOf ss) w h HS1.out (by omega))
 have H:=ι h
 have hni:(n:Int)≤65:=by omega
 clear h hs hsl
 go_enter Tryz.func30,Tryz.ntmps30
 go_wp2_with (go_at_call 73;refine(HP.out w).mono ?_;rintro e w0 ⟨rfl,rfl⟩)
 refine HC1.out.mono ?_
 rintro e w1 ⟨p1,c1,rfl,ho1,hb1⟩
 have HO1:=ι ho1
 have HB1:=ι hb1
 have HC2:=ι (b2p p n c (cellsOf ss) w1 (H.out.later hb1) HS1.out (by omega))
 clear ho1 hb1
 go_wp2_with (go_at_call 52;refine HC2.out.mono ?_;rintro e w2 ⟨p2,c2,rfl,ho2,hb2⟩;have HO2:=ι ho2;have HB2:=ι hb2;clear ho2 hb2)
 have hs1:=HB1.out.size
 have hs2:=HB2.out.size
 have hB:Below w.heap.size w w2:=HB1.out.trans (HB2.out.mono hs1)
 have hsz:=HSL.out
 have hfin:CodeAt (w2.alloc (.cells #[.pointer (some ⟨w2.heap.size,0,none⟩),.slice p1 n c1,.slice none 0 0,.slice p2 n c2,.int .i64 0,.slice none 0 0,.int .i64 0,.map none] 96)) (fun b=>w.heap.size≤b∧b<w2.heap.size+1) (fun b=>if b<w1.heap.size then 1 else if b<w2.heap.size then 3 else 0) w2.heap.size (st0 ss) (.slice p1 n c1) (.slice none 0 0) (.slice p2 n c2) (.slice none 0 0) (.map none):=by
  refine⟨heap_alloc_new _ _,⟨⟨by omega,by omega⟩,by dsimp only;rw[if_neg (by omega),if_neg (by omega)]⟩,?_,fun k hk => ?_,a2q _ _ _ _,c1s _,?_,fun k hk => ?_,⟨[],rfl,a2q _ _ _ _,fun i hi=>absurd hi (Nat.not_lt_zero _)⟩,c1s _,Or.inl ⟨rfl,rfl⟩,fun x hx=>by cases hx⟩
  ·show Own _ 0 _ 32 _ ss.length (cellsOf ss)
   rw[hsz]
   exact a1g (own_base HO1.out (Nat.zero_le _)) (a0b HB2.out (a0a (Below.refl _ _) _))
  ·have h:=a2x HO1.out hk
   exact⟨⟨h.1,by omega⟩,if_pos h.2⟩
  ·show Own _ 0 _ 32 _ ss.length (cellsOf ss)
   rw[hsz]
   exact a1g (own_base HO2.out (Nat.zero_le _)) (a0a (Below.refl _ _) _)
  ·have h:=a2x HO2.out hk
   exact⟨⟨by omega,by omega⟩,by dsimp only;rw[if_neg (by omega),if_pos h.2]⟩
 go_ret2
 exact⟨_,rfl,⟨_,w2.heap.size,_,_,_,_,_,rfl,hfin.wider (fun b hb=>⟨hb.1,by rw[size_alloc];exact hb.2⟩) (fun _ _=>rfl)⟩,a0a hB _⟩
theorem b6g(w:World)(p:Option Addr)(n c:Nat)(h:n≤200)(hn:n<1∨65<n):Calls Tryz.prog 30 #[.slice p n c] w (Rt w (.tuple #[.pointer none,.int .i64 1])):=by
 have HP:=ι (fun w=>cpossible (n:Int) w (WalkArith.wf_i64 (by omega)))
 rw[decide_eq_false (show ¬(1≤(n:Int)∧(n:Int)≤65) by omega)] at HP
 have hni:(n:Int)≤200:=by omega
 go_enter Tryz.func30,Tryz.ntmps30
 go_wp2_with (go_at_call 73;refine(HP.out w).mono ?_;rintro e w0 ⟨rfl,rfl⟩)
 go_ret2
 exact⟨rfl,Below.refl _ _⟩
end dsk
end Go.Proofs.YtpnahagiojelbaaGreatDoor
