/- What SfsRenames wants, part 36. -/
import Derived.Test.YtiaapfijbidgnaaGreatDoorSfsRenamesA
import Derived.Test.YtiaapfijbidgnaaGreatDoorSfsRenamesB
import Derived.Test.YtiaapfijbidgnaaGreatDoorSfsRenamesP
import Derived.Test.YtiaapfijbidgnaaGreatDoorSfsRenamesU
set_option linter.unusedVariables false
set_option linter.unusedSimpArgs false
namespace Go.Proofs.YtiaapfijbidgnaaGreatDoor
namespace dsk
set_option maxRecDepth 100000
open Go.ChangeShapes Go.WideShapes Go.ChangeAt Go.RowKit
open rows
open sec
open choMath
attribute [local go_sem] Oper.semAt_some
theorem a4x{W W':World}{row:Option Nat}{B:Nat}{t:TypeId}{v:Value}(h:Go.Boxed W B t v)(hg:W.grownBy W' row)(hr:∀r,row=some r→∃o:Obj,W.heap[r]? = some o∧o.isCells=false):Go.Boxed W' B t v :=
 h.kept hg fun e=>by
  obtain⟨o,ho,hc⟩:=hr B e.symm
  rw[show W.heap[B]? = _ from h] at ho;cases ho;cases hc
theorem b0l{W W':World}{row:Option Nat}{B:Nat}{e:TypeId}{sz n:Nat}{v:Value}{cs:List Value}(h:rows.Own W B e sz v n cs)(hg:W.grownBy W' row)(hr:∀r,row=some r→∃o:Obj,W.heap[r]? = some o∧o.isCells=false):rows.Own W' B e sz v n cs:=by
 refine⟨h.1,?_⟩
 rcases h.2 with h2|⟨g,cap,cur,hv,h3,h4,h5⟩
 ·exact Or.inl h2
 ·refine Or.inr ⟨g,cap,cur,hv,h3,(hg.block g (Array.getElem?_eq_some_iff.1 h4).1 fun e => ?_).trans h4,h5⟩
  obtain⟨o,ho,hc⟩:=hr g e.symm
  rw[h4] at ho;cases ho;cases hc
theorem a6s{T:Nat→Prop}{B:Nat}{W W':World}(h:Touch T W W')(hT:∀k,T k→k<W.heap.size→∃cs t fr,W.heap[k]? = some (.cells cs t fr)):KeepsFrom B W W' :=
 ⟨h.size,fun k o _ hk ho=>(h.block k (Array.getElem?_eq_some_iff.1 hk).1 fun ht=>by
  obtain⟨cs,t,fr,hc⟩:=hT k ht (Array.getElem?_eq_some_iff.1 hk).1
  rw[hc] at hk;cases hk;cases ho).trans hk⟩
theorem b2t{w:World}{B:Nat}{e:TypeId}{sz n:Nat}{v:Value}{cs:List Value}(h:rows.Own w B e sz v n cs){k:Nat}(hk:v.ownBlock=some k):∃cs t fr,w.heap[k]? = some (.cells cs t fr):=by
 rcases h.2 with⟨rfl,_⟩|⟨g,cap,cur,rfl,h3,h4,_⟩
 ·simp[Value.ownBlock] at hk
 ·obtain rfl:g=k:=by simpa [Value.ownBlock] using hk
  exact⟨_,_,_,h4⟩
theorem b1z{T:Nat→Prop}{W W':World}{o:Obj}(h:Touch T (W.alloc o) W'):Touch T W W':=(Touch.alloc (Touch.refl T W) o).trans h
theorem a1y{T:Nat→Prop}{W W':World}{B:Nat}{t:TypeId}{v:Value}(h:Go.Boxed W B t v)(ht:Touch T W W')(hT:¬T B):Go.Boxed W' B t v:=(ht.block B h.lt hT).trans h
end dsk
namespace dsk
set_option maxRecDepth 100000
open Go.ChangeShapes Go.WideShapes Go.ChangeAt Go.RowKit
open rows
open sec
def minI:Int := -9223372036854775808
def lastI(ts:List (Int×Int))(ws:List Wr):Int:=ws.foldl (fun a x=>if hasT ts x=true then max a x.ep else a) minI
theorem c4m(ts:List (Int×Int))(ws:List Wr)(j:Nat)(h:j<ws.length):lastI ts (ws.take (j+1))=if hasT ts ws[j]=true then max (lastI ts (ws.take j)) ws[j].ep else lastI ts (ws.take j):=by
 rw[List.take_succ_eq_append_getElem h,lastI,List.foldl_append];rfl
theorem b3q(ts:List (Int×Int)):∀(ws:List Wr) (p:Int×Bool) (a:Int),a=(if p.2=true then p.1 else minI)→minI≤a→(∀x∈ws,minI≤x.ep) →
  ws.foldl (fun a x=>if hasT ts x=true then max a x.ep else a) a=(if (ws.foldl (topStep ts) p).2=true then (ws.foldl (topStep ts) p).1 else minI)
 | [],p,a,h,_,_=>h
 | x::ws,p,a,h,h0,hx=>by
  have hx0:=hx x (List.mem_cons_self ..)
  rw[List.foldl_cons,List.foldl_cons]
  refine b3q ts ws (topStep ts p x) _ ?_ ?_ fun y hy=>hx y (List.mem_cons_of_mem _ hy)
  ·obtain⟨t,sb⟩:=p
   unfold topStep
   cases hh:hasT ts x<;>cases sb
   ·simpa using h
   ·simpa using h
   ·simp at h ⊢;omega
   ·simp only[if_true] at h
    by_cases hlt:t<x.ep
    ·simp[hlt];omega
    ·simp[hlt];omega
  ·split<;>omega
theorem c6q(ts:List (Int×Int))(ws:List Wr)(h:∀x∈ws,minI≤x.ep):lastI ts ws=if (topOf ts ws).2=true then (topOf ts ws).1 else minI:=b3q ts ws (0,false) minI rfl (Int.le_refl _) h
theorem d4s(ts:List (Int×Int))(ws:List Wr)(h:∀x∈ws,minI≤x.ep)(x:Wr)(hx:minI≤x.ep):madeC ts (lastI ts ws) x=madeB ts (topOf ts ws) x:=by
 unfold madeC madeB
 rw[c6q ts ws h]
 cases hs:(topOf ts ws).2
 ·simp;omega
 ·simp
theorem d5e{n:Int}(h:wf64 n):minI≤n:=(wf_i64 h).1
theorem settleI(safe:List (List Int))(ws:List Wr)(ts:List (Int×Int))(h:∀x∈ws,minI≤x.ep):settle safe ws ts=(outOf (madeC ts (lastI ts ws)) ws safe,leftUpto (madeC ts (lastI ts ws)) ws ws.length):=by
 have hm:∀x∈ws,madeB ts (topOf ts ws) x=madeC ts (lastI ts ws) x:=fun x hx=>(d4s ts ws h x (h x hx)).symm
 unfold settle
 rw[b2v ws safe hm,a7i ws hm _ (Nat.le_refl _)]
def sB(mk:Wr→Bool)(l:List Wr)(p:Nat):Bool:=l.any fun y=>mk y && y.pos.toNat == p
theorem b9u(mk:Wr→Bool)(x:Wr)(l:List Wr)(p:Nat):sB mk (x::l) p=((mk x && x.pos.toNat == p) || sB mk l p):=rfl
def sL(mk:Wr→Bool):List Wr→List Wr
 | []=>[]
 | x::r=>if (!mk x && !sB mk r x.pos.toNat)=true then x::sL mk r else sL mk r
theorem b9p(mk:Wr→Bool)(p:Nat)(s:List Int):∀(l:List Wr) (o:List (List Int)),outOf mk l (o.set p s)=if sB mk l p=true then outOf mk l o else (outOf mk l o).set p s
 | [],o=>by simp[outOf,sB]
 | x::l,o=>by
  have e:∀o',outOf mk (x::l) o'=outOf mk l (outStep mk o' x):=fun _=>rfl
  rw[e,e,b9u]
  cases hm:mk x
  ·have e2:∀o',outStep mk o' x=o':=fun o'=>by rw[outStep,hm];rfl
   rw[e2,e2,b9p mk p s l o]
   simp
  ·have e2:∀o',outStep mk o' x=o'.set x.pos.toNat x.s:=fun o'=>by rw[outStep,hm];rfl
   rw[e2,e2]
   by_cases hp:x.pos.toNat=p
   ·subst hp
    rw[List.set_set]
    simp
   ·rw[List.set_comm _ _ (Ne.symm hp),b9p mk p s l]
    have:(x.pos.toNat == p)=false:=by simpa using hp
    simp[this]
theorem b5m(mk:Wr→Bool)(x:Wr)(l:List Wr)(o:List (List Int)):outOf mk (x::l) o=if (mk x && !sB mk l x.pos.toNat)=true then (outOf mk l o).set x.pos.toNat x.s else outOf mk l o:=by
 have e:outOf mk (x::l) o=outOf mk l (outStep mk o x):=rfl
 rw[e,outStep]
 cases hm:mk x
 ·simp
 ·simp only[if_true]
  rw[b9p]
  cases hs:sB mk l x.pos.toNat<;>simp[hs]
theorem sB_pos(mk:Wr→Bool)(l:List Wr)(x:Wr)(hx:0≤x.pos)(hl:∀y∈l,0≤y.pos):(l.any fun y=>mk y && y.pos == x.pos)=sB mk l x.pos.toNat:=by
 rw[sB,Bool.eq_iff_iff,List.any_eq_true,List.any_eq_true]
 constructor
 ·rintro⟨y,hy,h⟩
  refine⟨y,hy,?_⟩
  simp only[Bool.and_eq_true,beq_iff_eq] at h ⊢
  exact⟨h.1,by rw[h.2]⟩
 ·rintro⟨y,hy,h⟩
  refine⟨y,hy,?_⟩
  simp only[Bool.and_eq_true,beq_iff_eq] at h ⊢
  have:=hl y hy
  exact⟨h.1,by omega⟩
theorem c7s(mk:Wr→Bool)(ws:List Wr)(hp:∀x∈ws,0≤x.pos):∀j,j≤ws.length→leftUpto mk ws j++sL mk (ws.drop j)=sL mk ws
 | 0,_=>by simp[leftUpto]
 | j+1,hj=>by
  have hjl:j<ws.length:=by omega
  have ih:=c7s mk ws hp j (by omega)
  rw[a5q mk ws j hjl,List.append_assoc,← ih,List.drop_eq_getElem_cons hjl]
  congr 1
  rw[sL]
  have h1:=sB_pos mk (ws.drop (j+1)) ws[j] (hp _ (List.getElem_mem hjl)) fun y hy=>hp y (List.mem_of_mem_drop hy)
  rw[staysB,h1]
  split<;>rfl
theorem b2g(mk:Wr→Bool)(ws:List Wr)(hp:∀x∈ws,0≤x.pos):leftUpto mk ws ws.length=sL mk ws:=by
 have:=c7s mk ws hp ws.length (Nat.le_refl _)
 rwa [List.drop_length,sL,List.append_nil] at this
theorem c2r(mk:Wr→Bool):∀(l:List Wr) (x:Wr),x∈sL mk l→x∈l
 | [],x,h=>h
 | y::l,x,h=>by
  rw[sL] at h
  split at h
  ·rcases List.mem_cons.1 h with rfl|h
   ·exact List.mem_cons_self ..
   ·exact List.mem_cons_of_mem _ (c2r mk l x h)
  ·exact List.mem_cons_of_mem _ (c2r mk l x h)
theorem c3f(mk:Wr→Bool):∀(l:List Wr),(sL mk l).length≤l.length
 | []=>Nat.le_refl _
 | y::l=>by
  have:=c3f mk l
  rw[sL]
  split<;>simp<;>omega
def sRow(mk:Wr→Bool)(l:List Wr):List Bool:=(List.range 65).map (sB mk l)
theorem a8h(mk:Wr→Bool)(l:List Wr):(sRow mk l).length=65:=by simp[sRow]
theorem c0p(mk:Wr→Bool)(l:List Wr)(p:Nat)(h:p<65):(sRow mk l)[p]'(by rw[a8h];exact h)=sB mk l p:=by simp[sRow]
theorem d3k(mk:Wr→Bool):sRow mk []=List.replicate 65 false:=by
 apply List.ext_getElem
 ·rw[a8h,List.length_replicate]
 ·intro i h1 h2
  rw[List.getElem_replicate,c0p mk [] i (by rw[a8h] at h1;exact h1)]
  rfl
theorem d2g(mk:Wr→Bool)(x:Wr)(l:List Wr)(h:mk x=true):(sRow mk l).set x.pos.toNat true=sRow mk (x::l):=by
 apply List.ext_getElem
 ·simp[sRow]
 ·intro i h1 h2
  rw[List.getElem_set]
  simp only[sRow,List.getElem_map,List.getElem_range,b9u,h,Bool.true_and]
  split
  ·rename_i e;simp[e]
  ·rename_i e
   have:(x.pos.toNat == i)=false:=by simpa using e
   simp[this]
theorem b9l(mk:Wr→Bool)(x:Wr)(l:List Wr)(h:mk x=false∨sB mk l x.pos.toNat=true):sRow mk (x::l)=sRow mk l:=by
 apply List.ext_getElem
 ·simp[sRow]
 ·intro i h1 h2
  simp only[sRow,List.getElem_map,List.getElem_range,b9u]
  rcases h with h|h
  ·simp[h]
  ·by_cases e:x.pos.toNat=i
   ·subst e;simp[h]
   ·have:(x.pos.toNat == i)=false:=by simpa using e
    simp[this]
end dsk
namespace dsk
set_option maxRecDepth 100000
open Go.ChangeShapes Go.WideShapes Go.ChangeAt Go.RowKit
open rows
open sec
open Go.Maps
theorem b4v{t k e:TypeId}(hu:Tryz.prog.underlying t=some (.map k e))(q:Nat)(hq:q≤1000)(w:World):(Instr.makeMap t (some (.int .i64 (q:Int)))).run Tryz.prog w = .ok (.map (some w.heap.size)) (w.alloc (.map #[] 0)):=by
 simp[Instr.makeMap,run_underlying hu,go_sem,Result.andThen]
structure DurAt (w:World) (bw bl b:Nat) (ts:List (Int×Int)) (last:Int):Prop where
 mapb:Go.Boxed w bw 254 (.map (some b))
 lastb:Go.Boxed w bl 3 (.int .i64 last)
 want:Wanted w b ts
theorem DurAt.kept{S:Nat→Prop}{w w':World}{bw bl b:Nat}{ts:List (Int×Int)}{last:Int}(h:DurAt w bw bl b ts last)(k:Keeps S w w')(h1:S bw)(h2:S bl)(h3:S b):DurAt w' bw bl b ts last :=
 ⟨(k.2 _ h.mapb.lt h1).trans h.mapb,(k.2 _ h.lastb.lt h2).trans h.lastb,a5n h.want h3 k⟩
theorem DurAt.later{w w':World}{bw bl b:Nat}{ts:List (Int×Int)}{last:Int}(h:DurAt w bw bl b ts last)(k:Below w.heap.size w w'):DurAt w' bw bl b ts last:=h.kept (S:=fun _=>True) (Keeps.of_below k) trivial trivial trivial
def durV(bw bl:Nat):Value := .func (.func 192) #[] #[.pointer (some ⟨bw,0,none⟩),.pointer (some ⟨bl,0,none⟩)]
set_option maxRecDepth 100000 in
set_option maxHeartbeats 1600000 in
theorem cdurable(x:Wr)(w:World)(bw bl b:Nat)(ts:List (Int×Int))(last:Int)(h:DurAt w bw bl b ts last)(hx:x.ok) :
  Calls Tryz.prog 192 #[.agg x.c.toArray,.pointer (some ⟨bw,0,none⟩),.pointer (some ⟨bl,0,none⟩)] w (Rt w (.bool (madeC ts last x))):=by
 have HX:=ι hx
 have hb1:Below w.heap.size w (w.alloc (.cells x.c.toArray 99)):=a0a (Below.refl _ _) _
 have hb2:Below w.heap.size w ((w.alloc (.cells x.c.toArray 99)).alloc (.cells #[] 200)):=a0a hb1 _
 have hx1:AtW (w.alloc (.cells x.c.toArray 99)) w.heap.size x:=heap_alloc_new _ _
 obtain⟨_,_,c33,c34,_⟩:=AtW.parts hx1 hx.1
 obtain⟨_,_,_,_,c35⟩:=AtW.parts (AtW.later hx1 (a0a (Below.refl _ _) (.cells #[] 200))) hx.1
 have hD1:=h.later hb1
 have cm:=hD1.mapb.cell
 have cl:=(h.later hb2).lastb.cell
 have hlk:=b2i hD1.want hx.2.2.1 hx.2.2.2.1
 have HB2:=ι hb2
 obtain⟨q,hq⟩:∃q,hasT ts x=q:=⟨_,rfl⟩
 rw[show decide ((x.kind,x.id)∈ts)=q from hq] at hlk
 have HMC:Hid (madeC ts last x=(q || decide (x.ep<last))):=ι (by rw[madeC,hq])
 rw[HMC.out]
 clear h hx hx1 hD1 hb1 hb2 hq HMC
 cases q with
 | true =>
  go_enter Tryz.func192,Tryz.ntmps192
  go_wp2
  go_ret
  exact⟨rfl,HB2.out⟩
 | false =>
  go_enter Tryz.func192,Tryz.ntmps192
  go_wp2
  go_ret
  exact⟨by simp,HB2.out⟩
set_option maxRecDepth 100000 in
set_option maxHeartbeats 3200000 in
theorem cdurableBy(w:World)(p:Option Addr)(q c:Nat)(ts:List (Int×Int))(pw:Option Addr)(m cw:Nat)(ws:List Wr)(ht:Rd w 2 (.slice p q c) q (tagsC ts))(hq:q≤1000)(hwt:∀t∈ts,wf64 t.1∧wf64 t.2)
  (hw:Rd w 36 (.slice pw m cw) m (wrsC ws)) (hm:m≤1000) (hws:∀x∈ws,x.ok) :
  Calls Tryz.prog 154 #[.slice p q c,.slice pw m cw] w fun e w'=>(∃bw bl b,e = .returned (durV bw bl)∧DurAt w' bw bl b ts (lastI ts ws)∧w.heap.size≤bw∧w.heap.size≤bl∧w.heap.size≤b)∧Below w.heap.size w w':=by
 have hql:ts.length=q:=Rd.count tagC ht (fun x _=>rfl) (by decide)
 have HQL:=ι hql
 have HTG:=ι ht
 have HWT:=ι hwt
 have HR:=ι hw
 have HWC:=ι fun x hx=>Wr.c_len (hws x hx).1
 have hml:ws.length=m:=Rd.count Wr.c hw (fun x hx=>Wr.c_len (hws x hx).1) (by decide)
 have HML:=ι hml
 have HS:=ι hws
 have hq1:(q:Int)≤1000:=by omega
 have hm1:(m:Int)≤1000:=by omega
 have hmm:=fun w=>b4v a9q q (by omega) w
 clear hql ht hwt hw hml hws
 unfold durV
 go_enter Tryz.func154,Tryz.ntmps154
 go_wp2_with fail
 obtain⟨W1,hW1⟩:∃W1,W1=(w.alloc (.map #[] 0)).alloc (.cells #[.map (some w.heap.size)] 254):=⟨_,rfl⟩
 have HB1:Hid (Below w.heap.size w W1):=ι (by rw[hW1];exact a0a (a0a (Below.refl _ w) _) _)
 have hs1:w.heap.size+2≤W1.heap.size:=by rw[hW1,size_alloc,size_alloc];omega
 have HX1:Hid (Go.Boxed W1 (w.heap.size+1) 254 (.map (some w.heap.size))):=ι (by
  rw[hW1]
  have:=Go.Boxed.new (w.alloc (.map #[] 0)) 254 (.map (some w.heap.size))
  rwa [size_alloc] at this)
 have HW0:Hid (∃D:DataW Unit,W1.ownsMap Tryz.prog 97 unitElem w.heap.size 0 D∧∀k i:Int,wf64 k→wf64 i→Maps.has D (tagL k i)=decide ((k,i)∈ts.take 0)):=by
  rw[hW1]
  refine ι ⟨.map [],?_,fun _ _ _ _=>by simp[Maps.has]⟩
  obtain⟨es,clock,he,r⟩:=World.ownsMap_made (P:=Tryz.prog) w 97 unitElem
  exact⟨es,clock,a2g he _,r⟩
 rw[← hW1]
 clear hW1
 go_loopw [18] (fun iv wr=>∃(jt:Nat),jt≤q∧iv = .int .i64 (jt:Int)∧Hid (Below w.heap.size w wr)∧w.heap.size+2≤wr.heap.size∧Hid (Go.Boxed wr (w.heap.size+1) 254 (.map (some w.heap.size)))∧Hid (∃D:DataW Unit,wr.ownsMap Tryz.prog 97 unitElem w.heap.size jt D∧∀k i:Int,wf64 k→wf64 i→Maps.has D (tagL k i)=decide ((k,i)∈ts.take jt))) (fun iv _=>q-(intOf iv).toNat)
 case atStart=>exact⟨0,by omega,rfl,HB1,hs1,HX1,HW0⟩
 case round =>
  clear HW0 HB1 HX1
  obtain⟨jt,hj,rfl,HB,hsr,HX1,HO⟩:=hrel
  by_cases ha:jt<q
  ·have ha1:(jt:Int)<q:=by omega
   have hjl:jt<ts.length:=by rw[HQL.out];exact ha
   obtain⟨b1,o1,rfl,hc1,hmm1,hh1,hl1,HR1⟩:=Rd.chunk tagC HTG.out (fun x _=>rfl) (by decide) ha
   have hr1:=Rd.rangeLater (HR1 jt hjl) hh1 HB.out
   have HX:Hid (ts[jt]=(ts[jt].1,ts[jt].2)):=ι rfl
   have hwx:=HWT.out _ (List.getElem_mem hjl)
   obtain⟨D,hD,hhas⟩:=HO.out
   have HH:=ι hhas
   have HMORE:Hid (∀(k i:Int) (w':World),ts[jt]=(k,i)→wf64 k→wf64 i→w'.ownsMap Tryz.prog 97 unitElem w.heap.size (jt+1) (D.put (tagL k i) (.agg []))→(∃D:DataW Unit,w'.ownsMap Tryz.prog 97 unitElem w.heap.size (jt+1) D∧∀k i:Int,wf64 k→wf64 i→Maps.has D (tagL k i)=decide ((k,i)∈ts.take (jt+1)))):=ι fun k i w' e hk hi h=>b9t hjl e hk hi hD HH.out h
   generalize ts[jt]=x at *
   obtain⟨x1,x2⟩:=x
   have HWX:=ι hwx
   have hx1:=hr1 0 _ rfl
   have hx2:=hr1 1 _ rfl
   rw[Nat.add_zero] at hx1
   have cmb:=(HX1.out.alloc (.cells #[.int .i64 x1,.int .i64 x2] 97)).cell
   clear HR1 hl1 hr1 hwx hhas HO
   have hDa:(wr.alloc (.cells #[.int .i64 x1,.int .i64 x2] 97)).ownsMap Tryz.prog 97 unitElem w.heap.size jt D:=by
    obtain⟨es,clock,he,r⟩:=hD
    exact⟨es,clock,a2g he _,r⟩
   go_wp2_with (at_mapUpdate;refine wpList_mapUpdate_own _ rfl _ _ _ 254 rfl 97 200 key_tag a9q unitElem w.heap.size jt D rfl hDa (by unfold maxLen;omega) _ _ (tagL x1 x2) rfl rfl (a8u HWX.out.1 HWX.out.2) (.agg []) [] unitElem_mk ?_;intro w3 hown3 hgrow3)
   have hB3:Below w.heap.size w w3:=by
    have h1:Below w.heap.size w (wr.alloc (.cells #[.int .i64 x1,.int .i64 x2] 97)):=a0a HB.out _
    exact h1.trans ⟨hgrow3.os,hgrow3.tape,hgrow3.output,hgrow3.size,fun k hk=>hgrow3.block k (by have:=h1.size;omega) (fun e=>by injection e;omega)⟩
   have hX3:=(HX1.out.alloc (.cells #[.int .i64 x1,.int .i64 x2] 97)).kept hgrow3 (fun e=>by injection e with e;omega)
   have hs3:=hgrow3.size
   rw[size_alloc] at hs3
   go_roundw
   case rel=>exact⟨jt+1,by omega,by go_num,ι hB3,by omega,ι hX3,ι (HMORE.out x1 x2 w3 HX.out HWX.out.1 HWX.out.2 hown3)⟩
   case measure=>simp[intOf];omega
  ·obtain rfl:jt=q:=by omega
   have HW1:Hid (Wanted wr w.heap.size ts):=ι (by
    obtain⟨D,hD,hh⟩:=HO.out
    rw[List.take_of_length_le (by rw[HQL.out];omega)] at hh
    exact⟨jt,D,by rw[HQL.out];exact Nat.le_refl _,hD,hh⟩)
   clear HO hmm
   go_wp2_with fail
   rename World=>wA
   have HBL:Hid (Go.Boxed (wA.alloc (.cells #[.int .i64 (-9223372036854775808)] 3)) wA.heap.size 3 (.int .i64 (lastI ts (ws.take 0)))):=ι (Go.Boxed.new wA 3 (.int .i64 (-9223372036854775808)))
   have HBW:Hid (Below wA.heap.size wA (wA.alloc (.cells #[.int .i64 (-9223372036854775808)] 3))):=ι (a0a (Below.refl _ _) _)
   go_loopw [28] (fun iv wr=>∃(j:Nat),j≤m∧iv = .int .i64 (j:Int)∧Hid (Go.Boxed wr wA.heap.size 3 (.int .i64 (lastI ts (ws.take j))))∧Hid (Below wA.heap.size wA wr)) (fun iv _=>m-(intOf iv).toNat)
   case atStart=>exact⟨0,by omega,rfl,HBL,HBW⟩
   case round =>
    clear HBL HBW
    obtain⟨j,hj2,rfl,HBL,HBV⟩:=hrel
    by_cases hb:j<m
    ·have ha1:(j:Int)<m:=by omega
     have hjl:j<ws.length:=by rw[HML.out];exact hb
     obtain⟨b1,o1,rfl,hc1,hmm1,hh1,hl1,HR1⟩:=Rd.chunk Wr.c HR.out HWC.out (by decide) hb
     have hbwv:Below w.heap.size w wr:=HB.out.trans (HBV.out.mono HB.out.size)
     have HRG:=ι (Rd.rangeLater (HR1 j hjl) hh1 hbwv)
     have HOK:=ι (HS.out _ (List.getElem_mem hjl))
     have HLS:=ι (c4m ts ws j hjl)
     generalize ws[j]=x at *
     have HSX:Hid (Sec x.s):=ι HOK.out.1
     obtain⟨t,ht⟩:∃t,lastI ts (ws.take j)=t:=⟨_,rfl⟩
     rw[ht] at HBL HLS
     have HLK:Hid (∀w',Below wA.heap.size wA w'→(Instr.lookup 254 (.map (some w.heap.size)) (.agg #[.int .i64 x.kind,.int .i64 x.id]) true).run Tryz.prog w' = .ok (.tuple #[.agg #[],.bool (hasT ts x)]) w'):=ι fun w' hb=>by
      have h1:=b2i (a5n (S:=fun _=>True) HW1.out trivial (Keeps.of_below hb)) HOK.out.2.2.1 HOK.out.2.2.2.1
      rw[h1];rfl
     have HMB:Hid (∀w',Below wA.heap.size wA w'→Go.Boxed w' (w.heap.size+1) 254 (.map (some w.heap.size))):=ι fun w' hb=>(hb.block _ HX1.out.lt).trans HX1.out
     have hsv:=HBV.out.size
     have hlb:=HBL.out.lt
     clear HR1 hl1 ht
     cases hqq:hasT ts x
     all_goals (rw[hqq] at HLK HLS;clear hqq)
     all_goals go_wp2_with (first|(refine a3o rfl (.tmp 30) rfl b1 (o1+j * 36) rfl x HSX.out HRG.out ?_)|(refine a6y rfl _ _ rfl rfl wr.heap.size x w0 rfl rfl HSX.out a0g (a9k wr) ?_;intro w2 hx2 hb2;have hbw:=(a0a (Below.refl _ wr) _).trans hb2;have hbr2:=HBV.out.trans (hbw.mono HBV.out.size);have HX2:=ι hx2;obtain⟨_,_,c33,c34,c35⟩:=AtW.parts hx2 HSX.out;have hlk:=HLK.out w2 hbr2;have cmb:=(HMB.out w2 hbr2).cell;obtain⟨_,_,_,_,c35a⟩:=AtW.parts (AtW.later HX2.out (a0a (Below.refl _ w2) (.cells #[] 200))) HSX.out;have hl2:Go.Boxed w2 wA.heap.size 3 (.int .i64 t):=(hbw.block _ hlb).trans HBL.out;have HL3:=ι (hl2.alloc (.cells #[] 200));clear hl2;have cl3:=HL3.out.cell;have fl3:=HL3.out.frozen;have HBB2:=ι (hbr2.alloc hbr2.size (.cells #[] 200));clear hb2 hx2))
     ·go_roundw
      case rel=>exact⟨j+1,by omega,by go_num,ι (by rw[HLS.out];exact HL3.out),HBB2⟩
      case measure=>simp[intOf];omega
     ·go_roundw
      case rel=>exact⟨j+1,by omega,by go_num,ι (by rw[HLS.out,if_pos rfl,Int.max_def];first|exact HL3.out.set _|(split<;>exact HL3.out.set _)),ι (HBB2.out.setCell (p:=⟨wA.heap.size,0,none⟩) (Nat.le_refl _) _)⟩
      case measure=>simp[intOf];omega
    ·obtain rfl:m=j:=by omega
     have HLE:Hid (Go.Boxed wr wA.heap.size 3 (.int .i64 (lastI ts ws))):=ι (by have h:=HBL.out;rwa [List.take_of_length_le (by rw[HML.out];omega)] at h)
     go_wp2_with fail
     go_ret
     exact⟨⟨w.heap.size+1,wA.heap.size,w.heap.size,rfl,⟨(HBV.out.block _ HX1.out.lt).trans HX1.out,HLE.out,a5n (S:=fun _=>True) HW1.out trivial (Keeps.of_below HBV.out)⟩,by omega,HB.out.size,Nat.le_refl _⟩,HB.out.trans (HBV.out.mono HB.out.size)⟩
end dsk
namespace dsk
set_option maxRecDepth 100000
open Go.ChangeShapes Go.WideShapes Go.ChangeAt Go.RowKit
open rows
open sec
attribute [local go_sem] Oper.semAt_some
structure BkAt (S:Nat→Prop) (w:World) (bx:Nat) (p:Option Addr) (m c:Nat) (ws:List Wr):Prop where
 b:Go.Boxed w bx 54 (.slice p m c)
 bS:S bx
 rd:Rd w 36 (.slice p m c) m (wrsC ws)
 rS:InS S (.slice p m c)
theorem BkAt.kept{S:Nat→Prop}{w w':World}{bx:Nat}{p:Option Addr}{m c:Nat}{ws:List Wr}(h:BkAt S w bx p m c ws)(k:Keeps S w w'):BkAt S w' bx p m c ws :=
 ⟨(k.2 _ h.b.lt h.bS).trans h.b,h.bS,dsk.Rd.kept h.rd h.rS k,h.rS⟩
def goodW(n:Nat)(x:Wr):Prop:=x.ok∧0≤x.pos∧x.pos<(n:Int)
abbrev BkT(n:Nat):={ x:Nat×Wr // goodW n x.2 }
def bkE{n:Nat}(x:BkT n):Array Value := #[.int .i64 (x.1.1:Int),.agg x.1.2.c.toArray]
def bkL{n:Nat}(ys:List (BkT n)):List Wr:=(ys.map fun x=>x.1.2).reverse
theorem b0m{n:Nat}(ys:List (BkT n))(x:BkT n):bkL (ys++[x])=x.1.2::bkL ys:=by simp[bkL]
theorem c6l{n:Nat}(ys:List (BkT n)):(bkL ys).length=ys.length:=by simp[bkL]
set_option maxRecDepth 100000 in
set_option maxHeartbeats 2000000 in
theorem cback1(nn:Nat)(hn:5≤nn)(S:Nat→Prop)(n l bx:Nat)(p:Option Addr)(m c:Nat)(ws:List Wr)(hws:∀x∈ws,goodW n x)(hm:m≤1000)(J Jx:List (BkT n)→World→Prop)
  (W:World) (hA:BkAt S W bx p m c ws) (hJ:AbidesFrom W.heap.size J)
  (hY:∀pre x W,J pre W→pre.length<1001→YieldAt Fence.wide (nn-1) Tryz.prog l (bkE x) W fun e W' =>
   (e = .returned (.bool true)∧J (pre++[x]) W'∧Keeps S W W')∨(e = .returned (.bool false)∧Jx (pre++[x]) W'))
  (h0:J [] W) :
  CallsIn Fence.wide nn Tryz.prog 193 #[.func (.yield l) #[] #[],.pointer (some ⟨bx,0,none⟩)] W fun e W'=>(∃v,e = .returned v) ∧
   ((∃ys,bkL ys=ws∧J ys W')∨(∃pre,True∧Jx pre W')):=by
 have hn1:1≤nn:=by omega
 have HWC:=ι fun x hx=>Wr.c_len (hws x hx).1.1
 have hml:ws.length=m:=Rd.count Wr.c hA.rd (fun x hx=>Wr.c_len (hws x hx).1.1) (by decide)
 have HML:=ι hml
 have HWS:=ι hws
 have HA:=ι hA
 have HY:=ι hY
 have HJ0:=ι h0
 have cb:=hA.b.cell
 have hm1:(m:Int)≤1000:=by omega
 clear hA hJ hY h0 hml hws
 refine callsIn_of_wp Tryz.func193 rfl trivial ?_ rfl
 simp only[Tryz.ntmps193,List.size_toArray,List.length_cons,List.length_nil,Nat.reduceAdd,Nat.reduceSub,Array.replicate_succ,Array.replicate_zero,List.push_toArray,List.append_toArray,List.nil_append,List.cons_append]
 gi_wp2
 clear cb
 gi_loopw [3] (fun iv wr=>∃(r:Nat) (ys:List (BkT n)),r≤m∧iv = .int .i64 ((r:Int)-1)∧Hid (bkL ys=ws.drop r)∧Hid (J ys wr)∧Hid (Keeps S W wr))
  (fun iv _=>(intOf iv+1).toNat)
 case atStart=>exact⟨m,[],Nat.le_refl _,by first|rfl|go_num,ι (by rw[List.drop_of_length_le (by rw[HML.out];omega)];rfl),HJ0,ι (Keeps.refl _ _)⟩
 case round =>
  obtain⟨r,ys,hr,rfl,HL,HJS,HK⟩:=hrel
  cases r with
  | zero =>
   gi_wp2
   go_end0
   exact⟨⟨_,rfl⟩,.inl ⟨ys,by rw[HL.out,List.drop_zero],HJS.out⟩⟩
  | succ r =>
   have hri:((r+1:Nat):Int)-1=(r:Int):=by omega
   rw[hri]
   have hrm:(r:Int)<m:=by omega
   have hrl:r<ws.length:=by rw[HML.out];omega
   have HA2:=ι (HA.out.kept HK.out)
   have cb:=HA2.out.b.cell
   obtain⟨b1,o1,rfl,hc1,hmm1,hh1,hl1,HR1⟩:=Rd.chunk Wr.c HA2.out.rd HWC.out (by decide) (show r<m by omega)
   have HRG:=ι (HR1 r hrl)
   have HLEN:Hid (ys.length<1001):=ι (by have:=c6l ys;rw[HL.out,List.length_drop] at this;omega)
   have HLD:Hid (ws.drop r=ws[r]::ws.drop (r+1)):=ι (List.drop_eq_getElem_cons hrl)
   have HGX:=ι (HWS.out _ (List.getElem_mem hrl))
   generalize ws[r]=x at *
   obtain⟨fn,tmps,assign,body,hy,hR⟩:=HY.out ys ⟨(r,x),HGX.out⟩ wr HJS.out HLEN.out
   simp only[bkE] at hy
   have HSX:Hid (Sec x.s):=ι HGX.out.1.1
   clear HR1 hl1
   gi_wp2_with (refine d2s ?_;refine a3o rfl (.tmp 15) rfl b1 (o1+r * 36) rfl x HSX.out HRG.out ?_;refine a4t ?_)
   refine hR.mono ?_
   rintro e W3 (⟨rfl,hJ3,hk3⟩|⟨rfl,hJx3⟩)
   ·have HJ3:=ι hJ3
    clear hy hR hJ3
    gi_wp2
    go_roundw
    case rel=>exact⟨r,ys++[⟨(r,x),HGX.out⟩],by omega,rfl,ι (by rw[b0m,HLD.out,← HL.out]),HJ3,ι (HK.out.trans hk3)⟩
    case measure=>simp only[intOf];omega
   ·have HJX3:=ι hJx3
    clear hy hR hJx3
    gi_wp2
    refine bodyPost_ret (results_none rfl _ _ _) rfl ?_
    exact⟨⟨_,rfl⟩,.inr ⟨_,trivial,HJX3.out⟩⟩
theorem cbstops(nn:Nat)(hn:5≤nn)(S:Nat→Prop)(n bx:Nat)(p:Option Addr)(m c:Nat)(ws:List Wr)(hws:∀x∈ws,goodW n x)(hm:m≤1000)(w:World)(hA:BkAt S w bx p m c ws) :
  SeqStopsK Fence.wide nn Tryz.prog 193 #[.pointer (some ⟨bx,0,none⟩)] (fun x:BkT n=>bkE x) (Keeps S) (fun ys=>bkL ys=ws) (fun _=>True) 1001 w:=fun l J Jx W hW hJ hJx hY h0 =>
 cback1 nn hn S n l bx p m c ws hws hm J Jx W (hA.kept (Keeps.of_below hW)) hJ hY h0
set_option maxRecDepth 100000 in
theorem cbackward(p:Option Addr)(m c:Nat)(w:World) :
  Calls Tryz.prog 155 #[.slice p m c] w fun e w'=>e = .returned (.func (.func 193) #[] #[.pointer (some ⟨w.heap.size,0,none⟩)])∧w'=w.alloc (.cells #[.slice p m c] 54):=by
 go_enter Tryz.func155,Tryz.ntmps155
 go_wp2
 go_ret
 exact⟨rfl,rfl⟩
end dsk
namespace dsk
set_option maxRecDepth 100000
open Go.ChangeShapes Go.WideShapes Go.ChangeAt Go.RowKit
open rows
open sec
theorem b8f{w:World}{B g n c:Nat}{ss:List Wr}(h:rows.Own w B 99 36 (.slice (some ⟨g,0,none⟩) n c) n (wrsC ss))(hs:∀x∈ss,Sec x.s){i:Nat}(hi:i<ss.length){x:Wr}(hl:Sec x.s) :
  ∃w',(storeVar 99 ⟨g,i * 36,none⟩ (.agg x.c.toArray)).run Tryz.prog w = .ok () w'∧rows.Own w' B 99 36 (.slice (some ⟨g,0,none⟩) n c) n (wrsC (ss.set i x))∧Touch (· = g) w w'∧B≤g:=by
 have hss:∀y∈ss.set i x,Sec y.s:=fun y hy=>by
  rcases List.mem_or_eq_of_mem_set hy with h|rfl
  ·exact hs y h
  ·exact hl
 obtain⟨hlen,h2⟩:=h
 rcases h2 with⟨h2,_⟩|⟨g',cap,cur,h1,h2,h3,h4,h5,h6,h7⟩
 ·cases h2
 ·cases h1
  have hcl:=b6m hs
  have hsn:ss.length=n:=by omega
  have hxl:=Wr.c_len hl
  have hsz:i * 36+36≤cur.size:=by rw[h6];omega
  have h8:=run_storeCells_at (P:=Tryz.prog) g (i * 36) 99 x.c 0 cur w h3 (by rw[hxl];omega) (a4u x)
  rw[Nat.add_zero,hxl] at h8
  have hput:=a8t Wr.c 36 ss i x (fun y hy=>Wr.c_len (hs y hy)) hxl hi
  have hcut:cur.toList=wrsC ss++cur.toList.drop (n * 36):=by rw[← h7,List.take_append_drop]
  have hnew:(cur.toList.take (i * 36)++x.c++cur.toList.drop (i * 36+36))=wrsC (ss.set i x)++cur.toList.drop (n * 36):=by
   rw[show wrsC (ss.set i x)=_ from hput.symm]
   conv=>lhs;rw[hcut]
   rw[List.take_append_of_le_length (by rw[hcl];omega),List.drop_append_of_le_length (by rw[hcl];omega)]
   simp[List.append_assoc,wrsC]
  have hcs:(wrsC (ss.set i x)).length=n * 36:=by rw[b6m hss];simp;omega
  refine⟨w.setRow g (wrsC (ss.set i x)++cur.toList.drop (n * 36)).toArray,?_,⟨hcs,Or.inr ⟨g,c,_,rfl,h2,setRow_heap w g _ _ _ _ h3,h4,h5,?_,?_⟩⟩,a3k w g _,h2⟩
  ·rw[← hnew]
   cases hq:Tryz.prog.info? 99 with
   | none=>have:=a7n;simp[hq] at this
   | some q =>
    have hqs:q.size=36:=by have:=a7n;simpa [hq] using this
    have hc:(Value.agg x.c.toArray).cells=x.c.toArray:=rfl
    simp[storeVar,sizeOf,typeInfo,hq,hqs,hc,hxl,h8]
  ·simp[hcs,h6];omega
  ·show (wrsC (ss.set i x)++cur.toList.drop (n * 36)).take (n * 36)=_
   rw[← hcs,List.take_left]
theorem a2c{w:World}{ops:Array Oper}{o:Oper}{a:Act}{K:Act→World→Prop}{Q:Exit→Act→World→Prop}{F:Prop}(hw:Region.wanted o (yielded ops a.tmps)=true)(x y:Operand)(ho:o.op = .store 99 x y)
  (B g i n c:Nat) (hx:a.eval x = .pointer (some ⟨g,i * 36,none⟩)) (z:Wr) (hy:a.eval y = .agg z.c.toArray) (hl:Sec z.s) (ss:List Wr) (hs:∀x∈ss,Sec x.s) (hi:i<ss.length) (hg:rows.Own w B 99 36 (.slice (some ⟨g,0,none⟩) n c) n (wrsC ss))
  (h:∀w',rows.Own w' B 99 36 (.slice (some ⟨g,0,none⟩) n c) n (wrsC (ss.set i z))→Touch (· = g) w w'→K (a.put o.dst undef) w'):if Region.wanted o (yielded ops a.tmps)=true then Oper.wp Tryz.prog o a w K Q else F:=by
 rw[if_pos hw]
 obtain⟨w',hrun,h1,h2,_⟩:=b8f hg hs hi hl
 unfold Oper.wp execOp
 simp only[ho,hx,hy,Instr.storeAt,Instr.sureAddr,Sem.run_bind,Sem.run_pure,Result.andThen_ok,hrun]
 exact h _ h1 h2
theorem a2k{w:World}{ops:Array Oper}{o:Oper}{a:Act}{K:Act→World→Prop}{Q:Exit→Act→World→Prop}{F:Prop}(hw:Region.wanted o (yielded ops a.tmps)=true)(x:Operand)(ho:o.op = .load 99 x)
  (b off:Nat) (hx:a.eval x = .pointer (some ⟨b,off,none⟩)) (y:Wr) (hs:Sec y.s) (hg:w.rangeAt b off y.c) (h:K (a.put o.dst (.agg y.c.toArray)) w):if Region.wanted o (yielded ops a.tmps)=true then Oper.wp Tryz.prog o a w K Q else F:=by
 rw[if_pos hw]
 exact wp_load_mid 99 x ho b off hx y.c _ hg b3r rfl (by rw[a7n,Wr.c_len hs]) h
def rv(l:List Wr)(i:Nat):List Wr:=(List.range l.length).map fun k=>if k<i∨l.length-i≤k then l.getD (l.length-1-k) w0 else l.getD k w0
theorem a4i(l:List Wr)(i:Nat):(rv l i).length=l.length:=by simp[rv]
theorem c1n(l:List Wr)(i k:Nat)(h:k<l.length):(rv l i)[k]'(by rw[a4i];exact h)=if k<i∨l.length-i≤k then l.getD (l.length-1-k) w0 else l.getD k w0:=by simp[rv]
theorem rv_zero(l:List Wr):rv l 0=l:=by
 apply List.ext_getElem
 ·exact a4i l 0
 ·intro k h1 h2
  rw[c1n l 0 k h2,if_neg (by omega)]
  simp[List.getD,h2]
theorem rv_end(l:List Wr)(i:Nat)(h:l.length≤2 * i+1):rv l i=l.reverse:=by
 apply List.ext_getElem
 ·rw[a4i,List.length_reverse]
 ·intro k h1 h2
  rw[a4i] at h1
  rw[c1n l i k h1,List.getElem_reverse]
  split
  ·simp[List.getD,show l.length-1-k<l.length by omega]
  ·have:l.length-1-k=k:=by omega
   simp[List.getD,h1,this]
theorem rv_swap(l:List Wr)(i:Nat)(h:2 * i+1<l.length):((rv l i).set i (l.getD (l.length-1-i) w0)).set (l.length-1-i) (l.getD i w0)=rv l (i+1):=by
 apply List.ext_getElem
 ·simp[a4i]
 ·intro k h1 h2
  rw[a4i] at h2
  rw[List.getElem_set,List.getElem_set,c1n l (i+1) k h2]
  by_cases e1:l.length-1-i=k
  ·rw[if_pos e1,if_pos (by omega)]
   congr 1;omega
  ·rw[if_neg e1]
   by_cases e2:i=k
   ·rw[if_pos e2,if_pos (by omega),e2]
   ·rw[if_neg e2,c1n l i k h2]
    by_cases e3:k<i∨l.length-i≤k
    ·rw[if_pos e3,if_pos (by omega)]
    ·rw[if_neg e3,if_neg (by omega)]
theorem rv_mem(l:List Wr)(i:Nat)(hs:∀x∈l,Sec x.s):∀x∈rv l i,Sec x.s:=by
 intro x hx
 obtain⟨k,hk,rfl⟩:=List.mem_iff_getElem.1 hx
 rw[a4i] at hk
 rw[c1n l i k hk]
 split
 ·simp only[List.getD,List.getElem?_eq_getElem (show l.length-1-k<l.length by omega),Option.getD_some]
  exact hs _ (List.getElem_mem _)
 ·simp only[List.getD,List.getElem?_eq_getElem hk,Option.getD_some]
  exact hs _ (List.getElem_mem _)
set_option maxRecDepth 100000 in
set_option maxHeartbeats 3200000 in
theorem creverse(w:World)(p:Option Addr)(q c:Nat)(l:List Wr)(h:rows.Own w 0 99 36 (.slice p q c) q (wrsC l))(hs:∀x∈l,Sec x.s)(hq:q≤1000) :
  Calls Tryz.prog 156 #[.slice p q c] w fun e w'=>e = .returned (.tuple #[])∧rows.Own w' 0 99 36 (.slice p q c) q (wrsC l.reverse)∧Touch (fun k=>(Value.slice p q c).ownBlock=some k) w w':=by
 have hlq:l.length=q:=by
  have:=h.rd.cells
  rw[b6m hs] at this
  omega
 have HLQ:=ι hlq
 have HS:=ι hs
 have HO0:Hid (rows.Own w 0 99 36 (.slice p q c) q (wrsC (rv l 0))):=ι (by rw[rv_zero];exact h)
 have hq1:(q:Int)≤1000:=by omega
 clear h hs hlq
 go_enter Tryz.func156,Tryz.ntmps156
 go_wp2
 go_loopw [2,3] (fun iv jv wr=>∃(i:Nat),2 * i≤q+1∧iv = .int .i64 (i:Int)∧jv = .int .i64 ((q:Int)-1-i)∧Hid (rows.Own wr 0 99 36 (.slice p q c) q (wrsC (rv l i)))∧Hid (Touch (fun k=>(Value.slice p q c).ownBlock=some k) w wr)) (fun iv _ _=>q+1-(intOf iv).toNat)
 case atStart=>exact⟨0,by omega,rfl,by simp,HO0,ι (Touch.refl _ _)⟩
 case round =>
  clear HO0
  obtain⟨i,hi,rfl,rfl,HO,HT⟩:=hrel
  by_cases ha:2 * i+1<q
  ·have ha1:(i:Int)<(q:Int)-1-i:=by omega
   obtain⟨j,hj⟩:∃j,j=q-1-i:=⟨_,rfl⟩
   have hjv:(q:Int)-1-i=(j:Int):=by omega
   rw[hjv] at ha1 ⊢
   have hjq:(j:Int)<q:=by omega
   have hiq:(i:Int)<q:=by omega
   have HJ:=ι hj
   have HJV:=ι hjv
   clear hj hjv
   obtain⟨g,hg⟩:=a5r HO.out (by omega)
   subst hg
   have HOD:Hid (rows.Own wr.drew 0 99 36 (.slice (some ⟨g,0,none⟩) q c) q (wrsC (rv l i))):=ι HO.out.drew
   have hil:i<l.length:=by rw[HLQ.out];omega
   have hjl:j<l.length:=by rw[HLQ.out];have:=HJ.out;omega
   have hji:l.length-1-i=j:=by have h1:=HLQ.out;have h2:=HJ.out;omega
   have HSW:=ι (rv_swap l i (by rw[HLQ.out];exact ha))
   obtain⟨xi,hxi⟩:∃x,l.getD i w0=x:=⟨_,rfl⟩
   obtain⟨xj,hxj⟩:∃x,l.getD j w0=x:=⟨_,rfl⟩
   have hei:(rv l i)[i]'(by rw[a4i];exact hil)=xi:=by rw[c1n l i i hil,if_neg (by omega),hxi]
   have hej:(rv l i)[j]'(by rw[a4i];exact hjl)=xj:=by rw[c1n l i j hjl,if_neg (by omega),hxj]
   have HMEM:=ι (rv_mem l i HS.out)
   have HXI:Hid (Sec xi.s):=ι (hei▸HMEM.out _ (List.getElem_mem _))
   have HXJ:Hid (Sec xj.s):=ι (hej▸HMEM.out _ (List.getElem_mem _))
   have HRV:Hid (∀k (hk:k<l.length),wr.drew.rangeAt g (k * 36) ((rv l i)[k]'(by rw[a4i];exact hk)).c):=ι (fun k hk=>by
    obtain⟨b,off,hbo,_,_,_,_,hr⟩:=Rd.chunk Wr.c HOD.out.rd (fun x hx=>Wr.c_len (HMEM.out x hx)) (by decide) (j:=k) (by rw[← HLQ.out];exact hk)
    cases hbo
    have:=hr k (by rw[a4i];exact hk)
    rwa [Nat.zero_add] at this)
   have HRI:Hid (wr.drew.rangeAt g (i * 36) xi.c):=ι (hei▸HRV.out i hil)
   have HRJ:Hid (wr.drew.rangeAt g (j * 36) xj.c):=ι (hej▸HRV.out j hjl)
   have HSW2:Hid (((rv l i).set i xj).set j xi=rv l (i+1)):=ι (by have h:=HSW.out;rw[hji,hxi,hxj] at h;exact h)
   have HSM:Hid (∀x∈(rv l i).set i xj,Sec x.s):=ι (fun x hx=>by
    rcases List.mem_or_eq_of_mem_set hx with h|rfl
    ·exact HMEM.out x h
    ·exact HXJ.out)
   clear hei hej hxi hxj hji HSW HRV
   go_wp2_with fail
   refine wp_region_held_drew (S:=fun _=>True) (by kernel_rfl) trivial (fun hH0 => ?_)
   refine tk 0 rfl ?_
   refine tk 1 rfl ?_
   refine tk 2 rfl ?_
   refine tk 3 rfl ?_
   refine tk 4 rfl ?_
   refine tk 5 rfl ?_
   refine tk 6 rfl ?_
   refine tk 8 rfl ?_
   refine tk 9 rfl ?_
   refine tk 10 rfl ?_
   refine wpAnyH_ready (rs:=[7,11]) (by kernel_rfl) (by simp) ?_
   refine AllReadyH.cons (o:={ dst:=some 21,op:=Op.load 99 (Operand.tmp 20),type:=99,pos := "slices.go:485", after := #[{ on:=6,ground:=Ground.data }],guard:=none }) rfl (fun K hK => ?_) (AllReadyH.cons (o:={ dst:=some 25,op:=Op.load 99 (Operand.tmp 24),type:=99,pos := "slices.go:485", after := #[{ on:=10,ground:=Ground.data }],guard:=none }) rfl (fun K hK => ?_) AllReadyH.nil)
   ·refine a2k (by rfl) _ (by rfl) g (j * 36) (by rfl) xj HXJ.out HRJ.out ?_
    dsimp only
    refine hK.out _ _ trivial (fun hHeld => ?_)
    clear hK K
    try simp only[Act.put,List.setIfInBounds_toArray,List.set_cons_zero,List.set_cons_succ]
    refine rd 11 rfl (fun K hK => ?_)
    refine a2k (by rfl) _ (by rfl) g (i * 36) (by rfl) xi HXI.out HRI.out ?_
    dsimp only
    refine hK.out _ _ trivial (fun hHeld => ?_)
    clear hK K
    try simp only[Act.put,List.setIfInBounds_toArray,List.set_cons_zero,List.set_cons_succ]
    refine tk 12 rfl ?_
    refine rd 13 rfl (fun K hK => ?_)
    refine a2c (by rfl) _ _ (by rfl) 0 g i q c (by rfl) xj (by rfl) HXJ.out _ HMEM.out (by rw[a4i];exact hil) HOD.out ?_
    intro w13 ho13 ht13
    have HO13:=ι ho13
    have HT13:=ι ht13
    clear ho13 ht13
    dsimp only
    refine hK.out _ _ trivial (fun hHeld => ?_)
    clear hK K
    try simp only[Act.put,List.setIfInBounds_toArray,List.set_cons_zero,List.set_cons_succ]
    refine tk 14 rfl ?_
    refine rd 15 rfl (fun K hK => ?_)
    refine a2c (by rfl) _ _ (by rfl) 0 g j q c (by rfl) xi (by rfl) HXI.out _ HSM.out (by rw[List.length_set,a4i];exact hjl) HO13.out ?_
    intro w15 ho15 ht15
    have HO15:=ι ho15
    have HT15:=ι ht15
    clear ho15 ht15
    dsimp only
    refine hK.out _ _ trivial (fun hHeld => ?_)
    clear hK K
    try simp only[Act.put,List.setIfInBounds_toArray,List.set_cons_zero,List.set_cons_succ]
    refine wpAnyH_done (by kernel_rfl) ?_ _
    have hT5:Touch (fun k=>(Value.slice (some ⟨g,0,none⟩) q c).ownBlock=some k) w w15:=HT.out.trans (((Touch.refl _ wr).drew.trans (HT13.out.mono (fun k hk=>by rw[hk];rfl))).trans (HT15.out.mono (fun k hk=>by rw[hk];rfl)))
    have HT5:=ι hT5
    clear hT5 hH0
    go_wp2_with fail
    refine⟨⟨i+1,by omega,by go_num,?_,ι (by rw[← HSW2.out];exact HO15.out),HT5⟩,by simp[intOf];omega⟩
    have:=HJV.out
    go_num
   ·refine a2k (by rfl) _ (by rfl) g (i * 36) (by rfl) xi HXI.out HRI.out ?_
    dsimp only
    refine hK.out _ _ trivial (fun hHeld => ?_)
    clear hK K
    try simp only[Act.put,List.setIfInBounds_toArray,List.set_cons_zero,List.set_cons_succ]
    refine rd 7 rfl (fun K hK => ?_)
    refine a2k (by rfl) _ (by rfl) g (j * 36) (by rfl) xj HXJ.out HRJ.out ?_
    dsimp only
    refine hK.out _ _ trivial (fun hHeld => ?_)
    clear hK K
    try simp only[Act.put,List.setIfInBounds_toArray,List.set_cons_zero,List.set_cons_succ]
    refine tk 12 rfl ?_
    refine rd 13 rfl (fun K hK => ?_)
    refine a2c (by rfl) _ _ (by rfl) 0 g i q c (by rfl) xj (by rfl) HXJ.out _ HMEM.out (by rw[a4i];exact hil) HOD.out ?_
    intro w13 ho13 ht13
    have HO13:=ι ho13
    have HT13:=ι ht13
    clear ho13 ht13
    dsimp only
    refine hK.out _ _ trivial (fun hHeld => ?_)
    clear hK K
    try simp only[Act.put,List.setIfInBounds_toArray,List.set_cons_zero,List.set_cons_succ]
    refine tk 14 rfl ?_
    refine rd 15 rfl (fun K hK => ?_)
    refine a2c (by rfl) _ _ (by rfl) 0 g j q c (by rfl) xi (by rfl) HXI.out _ HSM.out (by rw[List.length_set,a4i];exact hjl) HO13.out ?_
    intro w15 ho15 ht15
    have HO15:=ι ho15
    have HT15:=ι ht15
    clear ho15 ht15
    dsimp only
    refine hK.out _ _ trivial (fun hHeld => ?_)
    clear hK K
    try simp only[Act.put,List.setIfInBounds_toArray,List.set_cons_zero,List.set_cons_succ]
    refine wpAnyH_done (by kernel_rfl) ?_ _
    have hT5:Touch (fun k=>(Value.slice (some ⟨g,0,none⟩) q c).ownBlock=some k) w w15:=HT.out.trans (((Touch.refl _ wr).drew.trans (HT13.out.mono (fun k hk=>by rw[hk];rfl))).trans (HT15.out.mono (fun k hk=>by rw[hk];rfl)))
    have HT5:=ι hT5
    clear hT5 hH0
    go_wp2_with fail
    refine⟨⟨i+1,by omega,by go_num,?_,ι (by rw[← HSW2.out];exact HO15.out),HT5⟩,by simp[intOf];omega⟩
    have:=HJV.out
    go_num
  ·have ha1:¬((i:Int)<(q:Int)-1-i):=by omega
   go_wp2_with fail
   go_end0
   refine⟨rfl,?_,HT.out⟩
   rw[← rv_end l i (by rw[HLQ.out];omega)]
   exact HO.out
end dsk
end Go.Proofs.YtiaapfijbidgnaaGreatDoor
