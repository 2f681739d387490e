/- What SfsRenames wants, part 37. -/
import Derived.Test.YtiaapfijbidgnaaGreatDoorSfsRenamesA
import Derived.Test.YtiaapfijbidgnaaGreatDoorSfsRenamesB
import Derived.Test.YtiaapfijbidgnaaGreatDoorSfsRenamesP
import Derived.Test.YtiaapfijbidgnaaGreatDoorSfsRenamesZJ
import Derived.Laws.EntriesVeiled
set_option linter.unusedVariables false
set_option linter.unusedSimpArgs false
namespace Go.Proofs.YtiaapfijbidgnaaGreatDoor
namespace dsk
set_option maxRecDepth 100000
open Go.ChangeShapes Go.WideShapes Go.ChangeAt Go.RowKit
open rows
open sec
attribute [local go_sem] Oper.semAt_some
structure SyC where
 g:Nat
 bp:Nat
 bd:Nat
 bw:Nat
 bl:Nat
 b:Nat
 bs:Nat
 bf:Nat
 B:Nat
structure SyI (w:World) (C:SyC) (ps:Option Addr) (n cs:Nat) (vw:Value) (ts:List (Int×Int)) (last:Int) (ss:List (List Int)) (l:List Wr) (pl:Option Addr) (nl cl:Nat) (W:World):Prop where
 ptr:Go.Boxed W C.bp 209 (.pointer (some ⟨C.g,0,none⟩))
 dur:Go.Boxed W C.bd 161 (durV C.bw C.bl)
 durAt:DurAt W C.bw C.bl C.b ts last
 settled:W.heap[C.bs]? = some (.cells ((sRow (madeC ts last) l).map Value.bool).toArray 211 (0,0))
 left:Go.Boxed W C.bf 54 (.slice pl nl cl)
 own:rows.Own W 0 99 36 (.slice pl nl cl) nl (wrsC (sL (madeC ts last) l).reverse)
 nlen:nl=(sL (madeC ts last) l).length
 low:∀k,(Value.slice pl nl cl).ownBlock=some k→C.B≤k
 row:W.heap[C.g]? = some (.cells #[.slice ps n cs,vw] 67 (0,0))
 safe:rows.Own W 0 95 32 (.slice ps n cs) n (cellsOf (outOf (madeC ts last) l ss))
 touch:Touch (fun k=>(Value.slice ps n cs).ownBlock=some k) w W
 size:C.B≤W.heap.size
 good:∀x∈l,goodW n x
structure SyOk (w:World) (C:SyC) (ps:Option Addr) (n cs:Nat):Prop where
 g:C.g<w.heap.size
 s:∀k,(Value.slice ps n cs).ownBlock=some k→k<w.heap.size∧k≠C.g
 bp:w.heap.size≤C.bp∧C.bp<C.B
 bd:C.bp<C.bd∧C.bd<C.B
 bw:w.heap.size≤C.bw∧C.bw<C.bd∧C.bw≠C.bp
 bl:w.heap.size≤C.bl∧C.bl<C.bd∧C.bl≠C.bp
 b:w.heap.size≤C.b∧C.b<C.bd∧C.b≠C.bp
 bs:C.bd<C.bs∧C.bs<C.bf
 bf:C.bf<C.B
theorem SyI.turn{w:World}{C:SyC}{ps:Option Addr}{n cs:Nat}{vw:Value}{ts:List (Int×Int)}{last:Int}{ss:List (List Int)}{l:List Wr}{pl:Option Addr}{nl cl:Nat}{W W':World}{row:Option Nat}
  (h:SyI w C ps n cs vw ts last ss l pl nl cl W) (hC:SyOk w C ps n cs) (hg:W.grownBy W' row) (hr:∀r,row=some r→C.B≤r∧∃o:Obj,W.heap[r]? = some o∧o.isCells=false):SyI w C ps n cs vw ts last ss l pl nl cl W':=by
 have hr2:=fun r e=>(hr r e).2
 have hk:∀k,k<C.B→W'.heap[k]? = W.heap[k]? := fun k hkB=>hg.block k (by have:=h.size;omega) fun e=>by have:=(hr k e.symm).1;omega
 refine⟨a4x h.ptr hg hr2,a4x h.dur hg hr2,⟨a4x h.durAt.mapb hg hr2,a4x h.durAt.lastb hg hr2,?_⟩,(hk _ (by have:=hC.bs;have:=hC.bf;omega)).trans h.settled,a4x h.left hg hr2,b0l h.own hg hr2,h.nlen,h.low,(hk _ (by have:=hC.g;have:=hC.bp;omega)).trans h.row,b0l h.safe hg hr2,?_,Nat.le_trans h.size hg.size,h.good⟩
 ·exact a5n (S:=fun k=>k<C.B) h.durAt.want (by have:=hC.b;have:=hC.bd;omega) ⟨hg.size,fun k _ hk2=>hk k hk2⟩
 ·refine⟨hg.os.trans h.touch.os,hg.tape.trans h.touch.tape,hg.output.trans h.touch.output,Nat.le_trans h.touch.size hg.size,fun k hkw hkn=>(hk k ?_).trans (h.touch.block k hkw hkn)⟩
  have:=hC.bp;omega
theorem SyI.later{w:World}{C:SyC}{ps:Option Addr}{n cs:Nat}{vw:Value}{ts:List (Int×Int)}{last:Int}{ss:List (List Int)}{l:List Wr}{pl:Option Addr}{nl cl:Nat}{W W':World}
  (h:SyI w C ps n cs vw ts last ss l pl nl cl W) (hC:SyOk w C ps n cs) (hb:Below W.heap.size W W'):SyI w C ps n cs vw ts last ss l pl nl cl W' :=
 h.turn hC (row:=none) ⟨hb.os,hb.tape,hb.output,hb.size,fun k hk _=>hb.block k hk⟩ (fun r e=>by cases e)
theorem b3k{W W':World}{row:Option Nat}{B:Nat}{cs:Array Value}{t:TypeId}{fr:Nat×Nat}(h:W.heap[B]? = some (.cells cs t fr))(hg:W.grownBy W' row)(hr:∀r,row=some r→∃o:Obj,W.heap[r]? = some o∧o.isCells=false):W'.heap[B]? = some (.cells cs t fr) :=
 (hg.block B (Array.getElem?_eq_some_iff.1 h).1 fun e=>by
  obtain⟨o,ho,hc⟩:=hr B e.symm
  rw[h] at ho;cases ho;cases hc).trans h
theorem a2o{B:Nat}{W W':World}(hb:Below W.heap.size W W'):KeepsFrom B W W':=⟨hb.size,fun k o _ hk _=>(hb.block k (Array.getElem?_eq_some_iff.1 hk).1).trans hk⟩
theorem d5n{ops:Array Oper}{rest:List Oper}{o:Oper}{a:Act}{w:World}{Q:Exit→Act→World→Prop}(hw:Region.wanted o (yielded ops a.tmps)=true)(h:wpList Tryz.prog ops Q ({ o with guard:=none }::rest) a w):wpList Tryz.prog ops Q (o::rest) a w:=by
 unfold wpList at h ⊢
 rw[if_pos hw]
 rw[if_pos (by simp[Region.wanted])] at h
 exact h
theorem SyI.skip{w:World}{C:SyC}{ps:Option Addr}{n cs:Nat}{vw:Value}{ts:List (Int×Int)}{last:Int}{ss:List (List Int)}{l:List Wr}{pl:Option Addr}{nl cl:Nat}{W:World}{X:Wr}
  (h:SyI w C ps n cs vw ts last ss l pl nl cl W) (hX:goodW n X) (hs:sB (madeC ts last) l X.pos.toNat=true):SyI w C ps n cs vw ts last ss (X::l) pl nl cl W:=by
 have e:sL (madeC ts last) (X::l)=sL (madeC ts last) l:=by simp[sL,hs]
 refine⟨h.ptr,h.dur,h.durAt,by rw[b9l _ X l (Or.inr hs)];exact h.settled,h.left,by rw[e];exact h.own,by rw[e];exact h.nlen,h.low,h.row,by rw[b5m];simp only[hs,Bool.not_true,Bool.and_false,Bool.false_eq_true,if_false];exact h.safe,h.touch,h.size,fun x hx => ?_⟩
 rcases List.mem_cons.1 hx with rfl|hx
 ·exact hX
 ·exact h.good x hx
theorem SyI.stay{w:World}{C:SyC}{ps:Option Addr}{n cs:Nat}{vw:Value}{ts:List (Int×Int)}{last:Int}{ss:List (List Int)}{l:List Wr}{pl pa:Option Addr}{nl cl ca:Nat}{W W':World}{X:Wr}
  (h:SyI w C ps n cs vw ts last ss l pl nl cl W) (hC:SyOk w C ps n cs) (hX:goodW n X) (hs:sB (madeC ts last) l X.pos.toNat=false) (hm:madeC ts last X=false) (ht:Touch (fun k=>(Value.slice pl nl cl).ownBlock=some k∨k=C.bf) W W')
  (hb:Go.Boxed W' C.bf 54 (.slice pa (nl+1) ca)) (ho:rows.Own W' 0 99 36 (.slice pa (nl+1) ca) (nl+1) (wrsC (sL (madeC ts last) l).reverse++X.c)) (hl:∀k,(Value.slice pa (nl+1) ca).ownBlock=some k→C.B≤k):SyI w C ps n cs vw ts last ss (X::l) pa (nl+1) ca W':=by
 have e:sL (madeC ts last) (X::l)=X::sL (madeC ts last) l:=by simp[sL,hs,hm]
 have hno:∀k,k<C.B→k≠C.bf→¬((Value.slice pl nl cl).ownBlock=some k∨k=C.bf):=fun k hk hne hT=>by
  rcases hT with hT|hT
  ·have:=h.low k hT;omega
  ·exact hne hT
 have hK:Keeps (fun k=>k<C.B∧k≠C.bf) W W':=ht.keeps fun k hk=>hno k hk.1 hk.2
 have o1:=hC.g;have o2:=hC.bp;have o3:=hC.bd;have o4:=hC.bw;have o5:=hC.bl;have o6:=hC.b;have o7:=hC.bs;have o8:=hC.bf
 have hSlt:=fun k hk=>(hC.s k hk).1
 refine⟨a1y h.ptr ht (hno _ (by omega) (by omega)),a1y h.dur ht (hno _ (by omega) (by omega)),h.durAt.kept hK ⟨by omega,by omega⟩ ⟨by omega,by omega⟩ ⟨by omega,by omega⟩,?_,hb,by rw[e,List.reverse_cons,b6z];exact ho,by rw[e,List.length_cons,← h.nlen],hl,?_,?_,?_,Nat.le_trans h.size ht.size,fun x hx => ?_⟩
 ·rw[b9l _ X l (Or.inl hm)]
  exact(ht.block _ (Array.getElem?_eq_some_iff.1 h.settled).1 (hno _ (by omega) (by omega))).trans h.settled
 ·exact(ht.block _ (Array.getElem?_eq_some_iff.1 h.row).1 (hno _ (by omega) (by omega))).trans h.row
 ·rw[b5m,hm]
  exact a0m h.safe (fun k hk=>⟨by have:=hSlt k hk;omega,by have:=hSlt k hk;omega⟩) hK
 ·refine h.touch.trans' ht fun k hk=>Or.inr ?_
  rcases hk with hk|hk
  ·have:=h.low k hk;omega
  ·omega
 ·rcases List.mem_cons.1 hx with rfl|hx
  ·exact hX
  ·exact h.good x hx
theorem SyI.hit{w:World}{C:SyC}{ps:Option Addr}{n cs:Nat}{vw:Value}{ts:List (Int×Int)}{last:Int}{ss:List (List Int)}{l:List Wr}{pl:Option Addr}{nl cl:Nat}{W W':World}{X:Wr}
  (h:SyI w C ps n cs vw ts last ss l pl nl cl W) (hC:SyOk w C ps n cs) (hX:goodW n X) (hs:sB (madeC ts last) l X.pos.toNat=false) (hm:madeC ts last X=true) (ht:Touch (fun k=>(Value.slice ps n cs).ownBlock=some k∨k=C.bs) W W')
  (hb:W'.heap[C.bs]? = some (.cells (((sRow (madeC ts last) l).map Value.bool).toArray.setIfInBounds X.pos.toNat (.bool true)) 211 (0,0))) (ho:rows.Own W' 0 95 32 (.slice ps n cs) n (cellsOf ((outOf (madeC ts last) l ss).set X.pos.toNat X.s))):SyI w C ps n cs vw ts last ss (X::l) pl nl cl W':=by
 have e:sL (madeC ts last) (X::l)=sL (madeC ts last) l:=by simp[sL,hm]
 have o1:=hC.g;have o2:=hC.bp;have o3:=hC.bd;have o4:=hC.bw;have o5:=hC.bl;have o6:=hC.b;have o7:=hC.bs;have o8:=hC.bf
 have hSlt:=hC.s
 have hno:∀k,w.heap.size≤k∨k=C.g→k≠C.bs→¬((Value.slice ps n cs).ownBlock=some k∨k=C.bs):=fun k hk hne hT=>by
  rcases hT with hT|hT
  ·have:=hSlt k hT;omega
  ·exact hne hT
 have hK:Keeps (fun k=>(w.heap.size≤k∨k=C.g)∧k≠C.bs) W W':=ht.keeps fun k hk=>hno k hk.1 hk.2
 refine⟨a1y h.ptr ht (hno _ (by omega) (by omega)),a1y h.dur ht (hno _ (by omega) (by omega)),h.durAt.kept hK ⟨by omega,by omega⟩ ⟨by omega,by omega⟩ ⟨by omega,by omega⟩,?_,a1y h.left ht (hno _ (by omega) (by omega)),?_,by rw[e];exact h.nlen,h.low,?_,?_,?_,Nat.le_trans h.size ht.size,fun x hx => ?_⟩
 ·rw[hb,← d2g _ X l hm,List.map_set,List.setIfInBounds_toArray]
 ·rw[e]
  exact a0m h.own (fun k hk=>by have:=h.low k hk;exact⟨by omega,by omega⟩) hK
 ·exact(ht.block _ (Array.getElem?_eq_some_iff.1 h.row).1 (hno _ (by omega) (by omega))).trans h.row
 ·rw[b5m,hm,hs]
  exact ho
 ·refine h.touch.trans' ht fun k hk => ?_
  rcases hk with hk|hk
  ·exact Or.inl hk
  ·exact Or.inr (by omega)
 ·rcases List.mem_cons.1 hx with rfl|hx
  ·exact hX
  ·exact h.good x hx
def syA(g n0 n2 bw bl bx Bx:Nat)(pt:Option Addr)(q ct:Nat)(pw:Option Addr)(m cw:Nat)(i:Nat)(X:Wr):Act :=
 { tmps := #[Value.pointer (some { block:=g,off:=0 }),Value.slice pt q ct,Value.pointer (some { block:=n0,off:=0 }),undef,Value.pointer (some { block:=n2,off:=0 }),
   Value.pointer (some { block:=n2+1,off:=0 }),Value.pointer (some { block:=n2+1+1,off:=0 }),undef,Value.pointer (some { block:=Bx,off:=0 }),Value.slice pt q ct,
   Value.pointer (some { block:=g,off:=0 }),Value.pointer (some { block:=g,off:=0 }),Value.pointer (some { block:=g,off:=1 }),Value.slice pw m cw,
   Value.func (Fn.func 192) #[] #[Value.pointer (some { block:=bw,off:=0 }),Value.pointer (some { block:=bl,off:=0 })],
   Value.pointer (some { block:=g,off:=0 }),Value.pointer (some { block:=g,off:=0 }),Value.pointer (some { block:=g,off:=1 }),Value.slice pw m cw,
   Value.func (Fn.func 193) #[] #[Value.pointer (some { block:=bx,off:=0 })],.int .i64 (i:Int),.agg X.c.toArray,
   undef,undef,undef,undef,undef,undef,undef,undef,undef,undef,undef,undef,undef,undef,undef,undef,undef,undef,undef,undef,undef,undef,undef,undef,undef,undef,undef,undef,undef,undef,undef,undef,undef,undef,undef,undef,undef],defers:=[] }
set_option maxRecDepth 100000 in
set_option maxHeartbeats 3200000 in
theorem csyncS(w:World)(g:Nat)(ps:Option Addr)(n cs:Nat)(pw:Option Addr)(m cw:Nat)(pt:Option Addr)(q ct:Nat)(ss:List (List Int))(ws:List Wr)(ts:List (Int×Int))
  (row:w.heap[g]? = some (.cells #[.slice ps n cs,.slice pw m cw] 67 (0,0)))
  (hsafe:rows.Own w 0 95 32 (.slice ps n cs) n (cellsOf ss)) (hss:Secs ss) (hsl:ss.length=n) (hn:n≤65)
  (hwait:Rd w 36 (.slice pw m cw) m (wrsC ws)) (hwS:InS (fun b=>b≠g∧(Value.slice ps n cs).ownBlock≠some b) (.slice pw m cw)) (hws:∀x∈ws,goodW n x) (hm:m≤1000)
  (ht:Rd w 2 (.slice pt q ct) q (tagsC ts)) (hq:q≤1000) (hwt:∀t∈ts,wf64 t.1∧wf64 t.2) (hgs:∀k,(Value.slice ps n cs).ownBlock=some k→k≠g) :
  Calls Tryz.prog 98 #[.pointer (some ⟨g,0,none⟩),.slice pt q ct] w fun e w'=>e = .returned (.tuple #[])∧∃pl nl cl,w'.heap[g]? = some (.cells #[.slice ps n cs,.slice pl nl cl] 67 (0,0)) ∧
   rows.Own w' 0 95 32 (.slice ps n cs) n (cellsOf (settle ss ws ts).1)∧rows.Own w' 0 99 36 (.slice pl nl cl) nl (wrsC (settle ss ws ts).2)∧nl=(settle ss ws ts).2.length ∧
   (∀k,(Value.slice pl nl cl).ownBlock=some k→w.heap.size≤k)∧Touch (fun k=>k=g∨(Value.slice ps n cs).ownBlock=some k) w w':=by
 have hn1:1≤10:=by omega
 have hgl:g<w.heap.size:=(Array.getElem?_eq_some_iff.1 row).1
 have HSET:Hid (settle ss ws ts=(outOf (madeC ts (lastI ts ws)) ws ss,sL (madeC ts (lastI ts ws)) ws)):=ι (by
  rw[settleI ss ws ts fun x hx=>d5e (hws x hx).1.2.2.2.2,b2g _ _ fun x hx=>(hws x hx).2.1])
 obtain⟨last,hlast⟩:∃last,lastI ts ws=last:=⟨_,rfl⟩
 rw[hlast] at HSET
 have HROW:=ι row
 have HSF:=ι hsafe
 have HSS:=ι hss
 have HSL:=ι hsl
 have HW:=ι hwait
 have HWS:=ι hwS
 have HGW:=ι hws
 have HGS:=ι hgs
 have HDB:=ι fun W (hb:Below w.heap.size w W)=>cdurableBy W pt q ct ts pw m cw ws (ht.later hb) hq hwt (hwait.later hb) hm (fun x hx=>(hws x hx).1)
 rw[hlast] at HDB
 have hb1:Below w.heap.size w (w.alloc (.cells #[.pointer (some ⟨g,0,none⟩)] 209)):=a0a (Below.refl _ _) _
 have cg1:=a0c (a0w row hb1 hgl) 1 _ rfl
 have HB1:=ι hb1
 have HP1:=ι (Go.Boxed.new w 209 (.pointer (some ⟨g,0,none⟩)))
 clear row hsafe hss hsl hwait hwS hws ht hwt hgs hlast hb1
 refine(callsIn_wide (n:=10)).1 ?_
 refine callsIn_of_wp_marks Tryz.func98 rfl trivial ?_ rfl
 simp only[Tryz.ntmps98,List.size_toArray,List.length_cons,List.length_nil,Nat.reduceAdd,Nat.reduceSub,Array.replicate_succ,Array.replicate_zero,List.push_toArray,List.append_toArray,List.nil_append,List.cons_append]
 have HZC:Hid (Tryz.zeroCells211=((sRow (madeC ts last) []).map Value.bool).toArray):=ι (by rw[d3k];kernel_rfl)
 gi_wp2_with (first|(refine⟨trivial,?_⟩;gi_at_call 154;refine(callsIn_wide.2 (HDB.out _ HB1.out)).mono ?_;rintro e w2 ⟨⟨bw,bl,b,rfl,hD,hbw,hbl,hb⟩,hb2⟩;have hP2:Go.Boxed w2 w.heap.size 209 (.pointer (some ⟨g,0,none⟩)):=(hb2.block _ HP1.out.lt).trans HP1.out;have hR2:=a0w (a0w HROW.out HB1.out hgl) hb2 (by rw[size_alloc];omega);have HP2:=ι hP2;have HR2:=ι hR2;have cp:=(((hP2.alloc (.cells #[durV bw bl] 161)).alloc (.cells Tryz.zeroCells211 211)).alloc (.cells #[.slice none 0 0] 54)).cell;have cg:=a0c (a2g (a2g (a2g hR2 (.cells #[durV bw bl] 161)) (.cells Tryz.zeroCells211 211)) (.cells #[.slice none 0 0] 54)) 1 _ rfl;have HD:=ι hD;have HB2:=ι ((a0a (Below.refl _ w) _).trans (hb2.mono (by rw[size_alloc];omega)));unfold durV at cp cg ⊢;clear hD hb2 hP2 hR2)|(refine⟨trivial,?_⟩;gi_at_call 155;refine(callsIn_wide.2 (cbackward _ _ _ _)).mono ?_;rintro e w5 ⟨rfl,hw5⟩;have HW5:=ι hw5;clear hw5))
 rw[size_alloc] at hbw hbl hb
 have hdw:=HD.out.mapb.lt
 have hdl:=HD.out.lastb.lt
 have hdb:=HD.out.want.lt
 have hs2:=HB2.out.size
 have hsz5:w5.heap.size=w2.heap.size+1+1+1+1:=by rw[HW5.out];simp[size_alloc]
 have HB25:Hid (Below w2.heap.size w2 w5):=ι (by rw[HW5.out];exact a0a (a0a (a0a (a0a (Below.refl _ _) _) _) _) _)
 obtain⟨C,hC⟩:∃C:SyC,C=⟨g,w.heap.size,w2.heap.size,bw,bl,b,w2.heap.size+1,w2.heap.size+1+1,w5.heap.size⟩:=⟨_,rfl⟩
 have HOK:Hid (SyOk w ⟨g,w.heap.size,w2.heap.size,bw,bl,b,w2.heap.size+1,w2.heap.size+1+1,w5.heap.size⟩ ps n cs):=ι
  ⟨hgl,fun k hk=>⟨(World.ownsRow.lt HSF.out k hk).2,HGS.out k hk⟩,⟨Nat.le_refl _,by show w.heap.size<w5.heap.size;omega⟩,⟨by show w.heap.size<w2.heap.size;omega,by show w2.heap.size<w5.heap.size;omega⟩,⟨by show w.heap.size≤bw;omega,hdw,by show bw≠w.heap.size;omega⟩,⟨by show w.heap.size≤bl;omega,hdl,by show bl≠w.heap.size;omega⟩,⟨by show w.heap.size≤b;omega,hdb,by show b≠w.heap.size;omega⟩,⟨by show w2.heap.size<w2.heap.size+1;omega,by show w2.heap.size+1<w2.heap.size+1+1;omega⟩,by show w2.heap.size+1+1<w5.heap.size;omega⟩
 rw[← hC] at HOK
 have HI0:Hid (SyI w C ps n cs (.slice pw m cw) ts last ss [] none 0 0 w5):=ι (by
  rw[hC]
  have e0:=Go.Boxed.new w2 161 (durV bw bl)
  have e1:(((w2.alloc (.cells #[durV bw bl] 161)).alloc (.cells Tryz.zeroCells211 211))).heap[w2.heap.size+1]? = some (.cells ((sRow (madeC ts last) []).map Value.bool).toArray 211 (0,0)):=by
   rw[← HZC.out]
   have:=heap_alloc_new (w2.alloc (.cells #[durV bw bl] 161)) (.cells Tryz.zeroCells211 211)
   rwa [size_alloc] at this
  have e2:=Go.Boxed.new ((w2.alloc (.cells #[durV bw bl] 161)).alloc (.cells Tryz.zeroCells211 211)) 54 (.slice none 0 0)
  rw[size_alloc,size_alloc] at e2
  have hwB:Below w.heap.size w w5:=HB2.out.trans (HB25.out.mono hs2)
  refine⟨(HB25.out.block _ HP2.out.lt).trans HP2.out,by rw[HW5.out];exact((e0.alloc _).alloc _).alloc _,HD.out.later HB25.out,by rw[HW5.out];exact a2g (a2g e1 _) _,by rw[HW5.out];exact e2.alloc _,a2q _ _ _ _,rfl,fun k hk=>by simp[Value.ownBlock] at hk,a0w HR2.out HB25.out (show g<w2.heap.size by omega),a0n HSF.out hwB,Touch.of_below hwB,Nat.le_refl _,fun x hx=>by cases hx⟩)
 have HBK:Hid (BkAt (fun k=>k=w2.heap.size+1+1+1∨(k<w.heap.size∧k≠g∧(Value.slice ps n cs).ownBlock≠some k)) w5 (w2.heap.size+1+1+1) pw m cw ws):=ι (by
  have hwB:Below w.heap.size w w5:=HB2.out.trans (HB25.out.mono hs2)
  refine⟨?_,Or.inl rfl,HW.out.later hwB,fun a n' c' hv hn'=>Or.inr ?_⟩
  ·rw[HW5.out]
   have:=Go.Boxed.new (((w2.alloc (.cells #[durV bw bl] 161)).alloc (.cells Tryz.zeroCells211 211)).alloc (.cells #[.slice none 0 0] 54)) 54 (.slice pw m cw)
   rw[size_alloc,size_alloc,size_alloc] at this
   exact this
  ·refine⟨?_,HWS.out a n' c' hv hn'⟩
   rcases HW.out with⟨p',cap',h1,h2,_⟩|⟨b',off,cap',h1,_,_,_,h2,_⟩
   ·rw[h1] at hv;cases hv;omega
   ·rw[h1] at hv;cases hv;exact h2)
 have hB5:w.heap.size≤w5.heap.size:=by omega
 have hx5:w2.heap.size+1+1+1<w5.heap.size:=by omega
 have hC5:C.B=w5.heap.size:=by rw[hC]
 have HC:=ι hC
 clear hsz5 HW5 HDB HD HP2 HR2 HP1 HB1 HB25 HZC cp cg cg1 hdw hdl hdb
 refine wpIn_rangeFunc_ownH (F:=Fence.wide) rfl hn1 (gf:=193) (lb := #[.pointer (some ⟨w2.heap.size+1+1+1,0,none⟩)]) rfl trivial (enters_of Tryz.func193 (by kernel_rfl) rfl)
  (cbstops 9 (by omega) (fun k=>k=w2.heap.size+1+1+1∨(k<w.heap.size∧k≠g∧(Value.slice ps n cs).ownBlock≠some k)) n _ pw m cw ws HGW.out hm w5 HBK.out) (fun h k=>Keeps.trans h k)
  (fun W l o o' hl _ _ _=>⟨by simp,fun k _ hs=>World.putObj_heap_other (by omega)⟩) (Below.refl _ _) (fun _=>rfl)
  (fun pre W=>∃pl nl cl,SyI w C ps n cs (.slice pw m cw) ts last ss (bkL pre) pl nl cl W)
  (fun _ _ _=>False)
  (fun pre A B row ⟨pl,nl,cl,h⟩ hg hr=>⟨pl,nl,cl,h.turn HOK.out hg (fun r e=>by rw[hC5];exact hr r e)⟩)
  (fun c pre A B row h hg hr=>h)
  ⟨none,0,0,HI0.out⟩
  (fun x a' W=>∃Bx,w5.heap.size≤Bx∧AtW W Bx x.1.2∧a'=syA g w.heap.size w2.heap.size bw bl (w2.heap.size+1+1+1) Bx pt q ct pw m cw x.1.1 x.1.2)
  (fun x a' _ A B row ⟨Bx,h1,h2,h3⟩ hg hr=>⟨Bx,h1,b3k h2 hg (fun r e=>(hr r e).2),h3⟩)
  ?assign ?body ?done ?stop
 case assign =>
  rintro l pre ⟨⟨i,X⟩,hX⟩ W K ⟨pl,nl,cl,hI⟩ hK
  have HI:=ι hI
  have HX:Hid (Sec X.s):=ι hX.1.1
  have hKK:=ι hK
  clear hI hK
  unfold bkE
  gi_wp2_with (refine b0b rfl ?_;refine a6y rfl _ _ rfl rfl W.heap.size X w0 rfl rfl HX.out a0g (a9k W) ?_;intro w6 hx6 hb6;have hbw:=(a0a (Below.refl _ W) _).trans hb6;have HBW:=ι hbw;clear hb6 hbw;refine a4t ?_)
  exact hKK.out _ _ (a2o HBW.out) (Keeps.of_below HBW.out) ⟨pl,nl,cl,HI.out.later HOK.out HBW.out⟩ ⟨W.heap.size,by have:=HI.out.size;omega,hx6,rfl⟩
 case body =>
  rintro l pre ⟨⟨i,X⟩,hX⟩ a' W hl0 hloop ⟨pl,nl,cl,hI⟩ ⟨Bx,hBx,hAt,rfl⟩ hlt
  unfold syA
  dsimp only at hAt ⊢
  obtain⟨kp,hkp⟩:∃kp:Nat,X.pos=(kp:Int):=Int.eq_ofNat_of_zero_le hX.2.1
  have hkn:kp<n:=by have h1:X.pos<(n:Int):=hX.2.2;omega
  have hk65:(kp:Int)<65:=by omega
  have htn:X.pos.toNat=kp:=by omega
  have HGX:Hid (goodW n X):=ι hX
  have HTN:=ι htn
  have hnl:nl≤1001:=by
   have h1:=hI.nlen
   have h2:=c3f (madeC ts last) (bkL pre)
   rw[c6l] at h2
   omega
  obtain⟨c0,_⟩:=AtW.parts hAt hX.1.1
  rw[hkp] at c0
  have hBxl:Bx<W.heap.size:=(Array.getElem?_eq_some_iff.1 hAt).1
  have hWs:w5.heap.size≤W.heap.size:=by have:=hI.size;rw[hC5] at this;exact this
  obtain⟨sb,hb⟩:∃sb,sB (madeC ts last) (bkL pre) kp=sb:=⟨_,rfl⟩
  have cst:W.cell? ⟨w2.heap.size+1,kp,none⟩=some (.bool sb):=by
   have h1:=hI.settled
   rw[hC] at h1
   refine a0c h1 kp _ ?_
   have h2:=c0p (madeC ts last) (bkL pre) kp (by omega)
   have h3:kp<(sRow (madeC ts last) (bkL pre)).length:=by rw[a8h];omega
   rw[List.getElem?_toArray,List.getElem?_map,List.getElem?_eq_getElem h3,h2,hb];rfl
  have HI:=ι hI
  have HAT:=ι hAt
  have HBE:=ι hb
  have HKP:=ι hkp
  clear hI hAt hloop hl0 hb hkp htn hC
  cases sb with
  | true =>
   gi_wp2_with fail
   refine⟨fun _ h=>(by cases h),?_⟩
   gi_wp2_with fail
   exact⟨a2o (Below.refl _ _),Keeps.of_below (Below.refl _ _),pl,nl,cl,by rw[b0m];exact HI.out.skip HGX.out (by rw[HTN.out];exact HBE.out)⟩
  | false =>
   have HS:Hid (Sec X.s):=ι HGX.out.1.1
   have HRG:=ι (AtW.range HAT.out)
   have hdu:=HI.out.dur
   have hda:=HI.out.durAt
   have hlf:=HI.out.left
   rw[HC.out] at hdu hda hlf
   have HDA:=ι hda
   have cd:=hdu.cell
   unfold durV at cd
   obtain⟨mk,hmk⟩:∃mk,madeC ts last X=mk:=⟨_,rfl⟩
   have HMK:=ι hmk
   have cst0:=cst
   clear hdu hda hmk
   cases mk with
   | false =>
    have HLF:=ι hlf
    clear hlf
    gi_wp2_with (first|(refine b0b rfl ?_;refine d5n (by rfl) ?_;refine a3o rfl (.tmp 8) rfl Bx 0 rfl X HS.out HRG.out ?_;refine a4t ?_)|(refine b0b rfl ?_;refine a3o rfl (.tmp 8) rfl Bx 0 rfl X HS.out HRG6.out ?_;refine a4t ?_)|(refine b0b rfl ?_;refine a0q a5z (by decide) rfl (.tmp 50) rfl X.c rfl (Wr.c_len HS.out) ?_;refine a4t ?_)|(gi_at_builtin;refine b0b rfl ?_;refine b8j a5z rfl (.tmp 49) (.tmp 51) rfl _ nl _ rfl (HI6.out.own.alloc _) _ 1 X.c rfl (a1v _ _ _ _ (Wr.c_len HS.out)) (a4u X) (by omega) ?_;intro pa ca wa hoa hta hla;have hB8:=a1y (HL6.out.alloc (.cells X.c.toArray 99)) hta (fun e=>by have:=HI6.out.low _ e;omega);have c8a:=hB8.cell;have f8a:=hB8.frozen;have HB8:=ι hB8;have HOA:=ι hoa;have HTA:=ι hta;have HLA:=ι hla;clear hoa hta hla hB8;refine a4t ?_)|(refine⟨trivial,?_⟩;gi_at_call 192;refine(b6q (cdurable X W bw bl b ts last HDA.out HGX.out.1)).mono ?_;rintro e w6 ⟨rfl,hb6⟩;rw[HMK.out];have hI6:=HI.out.later HOK.out hb6;have hc6:=(Below.cell hb6 (p:=⟨Bx,0,none⟩) hBxl).trans c0;have hs6:=(Below.cell hb6 (p:=⟨w2.heap.size+1,kp,none⟩) (by show w2.heap.size+1<W.heap.size;omega)).trans cst0;have hl6:Go.Boxed w6 (w2.heap.size+1+1) 54 (.slice pl nl cl):=(hb6.block _ HLF.out.lt).trans HLF.out;have cl6:=hl6.cell;have HRG6:=ι (AtW.range (AtW.later HAT.out hb6));have HI6:=ι hI6;have HL6:=ι hl6;have HB6:=ι hb6;clear hI6 hl6 hb6 c0 cst cst0 cd))
    have ht:Touch (fun k=>(Value.slice pl nl cl).ownBlock=some k∨k=w2.heap.size+1+1) w6 (wa.setCell ⟨w2.heap.size+1+1,0,none⟩ (.slice pa (nl+1) ca)) :=
     Touch.setCell (S:=fun k=>(Value.slice pl nl cl).ownBlock=some k∨k=w2.heap.size+1+1) ((b1z HTA.out).mono (fun i hi=>Or.inl hi)) ⟨w2.heap.size+1+1,0,none⟩ (Or.inr rfl) _
    have hWs6:=HB6.out.size
    have hlow2:∀k,(Value.slice pa (nl+1) ca).ownBlock=some k→C.B≤k:=fun k hk=>by
     rcases HLA.out k hk with h|h
     ·exact HI6.out.low k h
     ·have:=h.1
      rw[size_alloc] at this
      omega
    have hkf:KeepsFrom w5.heap.size w6 (wa.setCell ⟨w2.heap.size+1+1,0,none⟩ (.slice pa (nl+1) ca)):=a6s ht (fun k hk _=>by
     rcases hk with hk|rfl
     ·exact b2t HI6.out.own hk
     ·exact⟨_,_,_,HL6.out⟩)
    refine⟨(a2o HB6.out).trans hkf,(Keeps.of_below HB6.out).trans (ht.keeps fun k hk hT => ?_),pa,nl+1,ca,?_⟩
    ·rcases hT with hT|hT
     ·have:=HI6.out.low k hT;omega
     ·omega
    ·rw[b0m]
     refine HI6.out.stay HOK.out HGX.out (by rw[HTN.out];exact HBE.out) HMK.out (by rw[HC.out];exact ht) (by rw[HC.out];exact HB8.out.set _) ?_ hlow2
     exact a0m (S:=fun k=>w5.heap.size≤k) HOA.out (fun k hk=>by have:=hlow2 k hk;omega) (Keeps.set (fun k hk=>by omega) _)
   | true =>
    obtain⟨gs,hgs⟩:=a5r HI.out.safe (by omega)
    subst hgs
    have hsp:=HI.out.ptr
    have hrw:=HI.out.row
    rw[HC.out] at hsp hrw
    have HRW:Hid (W.heap[g]? = some (.cells #[.slice (some ⟨gs,0,none⟩) n cs,.slice pw m cw] 67 (0,0))):=ι hrw
    have HSP:Hid (Go.Boxed W w.heap.size 209 (.pointer (some ⟨g,0,none⟩))):=ι hsp
    clear hlf hsp hrw
    gi_wp2_with (first|(refine b0b rfl ?_;refine d5n (by rfl) ?_;refine a3o rfl (.tmp 8) rfl Bx 0 rfl X HS.out HRG.out ?_;refine a4t ?_)|(refine⟨trivial,?_⟩;gi_at_call 192;refine(b6q (cdurable X W bw bl b ts last HDA.out HGX.out.1)).mono ?_;rintro e w6 ⟨rfl,hb6⟩;rw[HMK.out];have hI6:=HI.out.later HOK.out hb6;have HC6:=ι ((Below.cell hb6 (p:=⟨Bx,0,none⟩) hBxl).trans c0);have hp6:Go.Boxed w6 w.heap.size 209 (.pointer (some ⟨g,0,none⟩)):=(hb6.block _ HSP.out.lt).trans HSP.out;have HP6:=ι hp6.cell;have HR6:=ι (a0w HRW.out hb6 (show g<W.heap.size by omega));have HAT6:=ι (AtW.later HAT.out hb6);have HI6:=ι hI6;have HB6:=ι hb6;clear hI6 hp6 hb6 c0 cst cst0 cd))
    have HSM:=ι (a0c HR6.out 0 _ rfl)
    have HX6:=ι (AtW.parts HAT6.out HS.out).2.1
    have HOS:=ι (a6z (madeC ts last) (bkL pre) ss HSS.out fun x hx=>(HI6.out.good x hx).1.1)
    have HOL:=ι ((a8k (madeC ts last) (bkL pre) ss).trans HSL.out)
    refine b3a 9 (S:=(· = w6.drew)) (by kernel_rfl) (by kernel_rfl) rfl (fun hH0 => ?_)
    refine tlv 0 rfl (a0l (by rfl) 209 _ Tryz.underlying209 rfl _ rfl w.heap.size 0 rfl (.pointer (some ⟨g,0,none⟩)) (fun w' hw=>by subst hw;exact HP6.out)) ?_
    refine tl 1 rfl ?_
    refine tl 2 rfl ?_
    refine tlv 3 rfl (a0l (by rfl) 22 _ Tryz.underlying22 rfl _ rfl g 0 rfl (.slice (some ⟨gs,0,none⟩) n cs) (fun w' hw=>by subst hw;exact HSM.out)) ?_
    refine tl 4 rfl ?_
    refine tlv 5 rfl (a0l (by rfl) 3 _ a3m rfl _ rfl Bx 0 rfl (.int .i64 (kp:Int)) (fun w' hw=>by subst hw;exact HC6.out)) ?_
    refine tl 6 rfl ?_
    refine tlv 7 rfl (a5e (by rfl) _ rfl Bx 1 rfl X.s HS.out.1 (fun w' hw=>by subst hw;exact HX6.out)) ?_
    refine tl 8 rfl ?_
    refine a0v (rs:=[9]) (by kernel_rfl) (by simp) ?_
    refine AllReadyL.cons (o:={ dst:=none,op:=Op.store 95 (Operand.tmp 40) (Operand.tmp 39),type:=0,pos := "crash.go:76", after := #[{ on:=8,ground:=Ground.data },{ on:=7,ground:=Ground.data },{ on:=0,ground:=Ground.phase },{ on:=1,ground:=Ground.phase },{ on:=2,ground:=Ground.phase },{ on:=3,ground:=Ground.phase },{ on:=4,ground:=Ground.phase },{ on:=5,ground:=Ground.phase },{ on:=6,ground:=Ground.phase },{ on:=7,ground:=Ground.phase }],guard:=none }) rfl (fun K hK => ?_) AllReadyL.nil
    refine a3f (by rfl) _ _ (by rfl) 0 gs kp n cs (by rfl) X.s (by rfl) HS.out _ HOS.out (by rw[HOL.out];exact hkn) HI6.out.safe.drew ?_
    intro w9 ho9 ht9
    have HO9:=ι ho9
    have HT9:=ι ht9
    clear ho9 ht9
    dsimp only
    refine hK.out _ _ (Or.inl rfl) (fun hHeld => ?_)
    clear hK K
    try simp only[Act.put,List.setIfInBounds_toArray,List.set_cons_zero,List.set_cons_succ]
    refine a6a (by kernel_rfl) ?_ _
    clear hHeld hH0
    refine a4t (P:=Tryz.prog) (ops := #[]) ?_
    have hgs:gs<w.heap.size∧gs≠g:=by have:=HOK.out.s gs rfl;rw[HC.out] at this;exact this
    have hT9:Touch (· = gs) w6 w9:=HT9.out.drewL
    have hWs6:=HB6.out.size
    have hWs9:=hT9.size
    have hst6:=HI6.out.settled
    rw[HC.out] at hst6
    have HRS:Hid (w9.heap[w2.heap.size+1]? = some (.cells ((sRow (madeC ts last) (bkL pre)).map Value.bool).toArray 211 (0,0))):=ι ((hT9.block _ (by omega) (by omega)).trans hst6)
    have cb9:=(hT9.cell (p:=⟨Bx,0,none⟩) (by show Bx<w6.heap.size;omega) (by show Bx≠gs;omega)).trans HC6.out
    have cs9:w9.cell? ⟨w2.heap.size+1,kp,none⟩=some (.bool false):=by
     refine a0c HRS.out kp _ ?_
     have h2:=c0p (madeC ts last) (bkL pre) kp (by omega)
     have h3:kp<(sRow (madeC ts last) (bkL pre)).length:=by rw[a8h];omega
     rw[List.getElem?_toArray,List.getElem?_map,List.getElem?_eq_getElem h3,h2,HBE.out];rfl
    have fs9:=a0e HRS.out kp
    have hne9:Bx≠w2.heap.size+1:=by omega
    have HT:=ι hT9
    clear hT9 hst6
    dsimp only[Exit.then]
    gi_wp2_with fail
    have ht:Touch (fun k=>(Value.slice (some ⟨gs,0,none⟩) n cs).ownBlock=some k∨k=w2.heap.size+1) w6 (w9.setCell ⟨w2.heap.size+1,kp,none⟩ (.bool true)) :=
     Touch.setCell (S:=fun k=>(Value.slice (some ⟨gs,0,none⟩) n cs).ownBlock=some k∨k=w2.heap.size+1) (HT.out.mono (fun i hi=>Or.inl (by rw[hi];rfl))) ⟨w2.heap.size+1,kp,none⟩ (Or.inr rfl) _
    have hkf:KeepsFrom w5.heap.size w6 (w9.setCell ⟨w2.heap.size+1,kp,none⟩ (.bool true)):=a6s ht (fun k hk _=>by
     rcases hk with hk|rfl
     ·exact b2t HI6.out.safe hk
     ·have h:=HI6.out.settled
      rw[HC.out] at h
      exact⟨_,_,_,h⟩)
    refine⟨(a2o HB6.out).trans hkf,(Keeps.of_below HB6.out).trans (ht.keeps fun k hk hT => ?_),pl,nl,cl,?_⟩
    ·rcases hT with hT|hT
     ·have:=(HOK.out.s k hT).1
      rcases hk with hk|hk
      ·omega
      ·exact hk.2.2 hT
     ·omega
    ·rw[b0m]
     refine HI6.out.hit HOK.out HGX.out (by rw[HTN.out];exact HBE.out) HMK.out (by rw[HC.out];exact ht) (by rw[HC.out,HTN.out];exact a0d HRS.out _) ?_
     rw[HTN.out]
     exact a0m (S:=fun k=>k≠w2.heap.size+1) HO9.out (fun k hk=>by have:=(HOK.out.s k hk).1;omega) (Keeps.set (fun k hk=>hk) _)
 case done =>
  rintro D ys W hD hys ⟨pl,nl,cl,hI⟩ hK
  rw[hys] at hI
  have HI:=ι hI
  have hlf:=hI.left
  have hsp:=hI.ptr
  have hrw:=hI.row
  rw[hC] at hlf hsp hrw
  have HLF:Hid (Go.Boxed W (w2.heap.size+1+1) 54 (.slice pl nl cl)):=ι hlf
  have HSP:Hid (Go.Boxed W w.heap.size 209 (.pointer (some ⟨g,0,none⟩))):=ι hsp
  have HRW:Hid (W.heap[g]? = some (.cells #[.slice ps n cs,.slice pw m cw] 67 (0,0))):=ι hrw
  have clf:=HLF.out.cell
  have HKD:=ι hK
  clear hI hlf hsp hrw hK hC
  have hgood:Hid (∀x∈sL (madeC ts last) ws,Sec x.s):=ι fun x hx=>(HGW.out x (c2r _ _ _ hx)).1.1
  have hnl:nl≤1000:=by
   have h1:=HI.out.nlen
   have h2:=c3f (madeC ts last) ws
   have h3:=Rd.count Wr.c HW.out (fun x hx=>Wr.c_len (HGW.out x hx).1.1) (by decide)
   omega
  have hWs:w5.heap.size≤W.heap.size:=by have:=HI.out.size;rw[hC5] at this;exact this
  have hlow:=HI.out.low
  rw[hC5] at hlow
  have HLOW:=ι hlow
  clear hlow
  gi_wp2_with (first|(refine⟨trivial,?_⟩;gi_at_call 156;refine(callsIn_wide.2 (creverse W pl nl cl (sL (madeC ts last) ws).reverse HI.out.own (fun x hx=>hgood.out x (List.mem_reverse.1 hx)) hnl)).mono ?_;rintro e w8 ⟨rfl,ho8,ht8⟩;rw[List.reverse_reverse] at ho8;have hl8:=a1y HLF.out ht8 (fun e=>by have:=HLOW.out _ e;omega);have hp8:=a1y HSP.out ht8 (fun e=>by have:=HLOW.out _ e;omega);have hr8:=(ht8.block g (by omega) (fun e=>by have:=HLOW.out _ e;omega)).trans HRW.out;have cl8:=hl8.cell;have cp8:=hp8.cell;have cg8:=a0c hr8 1 _ rfl;have fg8:=a0e hr8 1;have HO8:=ι ho8;have HT8:=ι ht8;have HR8:=ι hr8;clear ho8 ht8 hl8 hp8 hr8 clf))
  have hD8:w8.heap[D]? = some (.deferred (some [])):=(HT8.out.block D (Array.getElem?_eq_some_iff.1 HKD.out).1 (fun e=>by
   obtain⟨_,_,_,h⟩:=b2t HI.out.own e
   rw[HKD.out] at h;cases h)).trans HKD.out
  have hK':(w8.setCell ⟨g,1,none⟩ (.slice pl nl cl)).heap[D]? = some (.deferred (some [])):=(Below.heap_setCell _ _ _ _ (by show D≠g;omega)).trans hD8
  refine⟨by simp,.inl ⟨_,_,rfl,run_takeDeferred hK',?_⟩⟩
  have hg9:=grownBy_putObj' (w8.setCell ⟨g,1,none⟩ (.slice pl nl cl)) D (.deferred none)
  have hr9:∀r,some D=some r→∃o:Obj,(w8.setCell ⟨g,1,none⟩ (.slice pl nl cl)).heap[r]? = some o∧o.isCells=false:=fun r e=>by cases e;exact⟨_,hK',rfl⟩
  refine⟨.tuple #[],by simp[results,Tryz.f98,go_sem],rfl,pl,nl,cl,?_,?_,?_,?_,fun k hk=>by have:=HLOW.out k hk;omega,?_⟩
  ·refine b3k ?_ hg9 hr9
   have:=a0d (i:=1) HR8.out (.slice pl nl cl)
   simpa using this
  ·rw[HSET.out]
   refine b0l ?_ hg9 hr9
   refine a0m (S:=fun k=>k≠g∧k<w.heap.size) HI.out.safe (fun k hk=>by have:=HOK.out.s k hk;rw[HC.out] at this;exact⟨this.2,this.1⟩) ((HT8.out.keeps fun k hk e=>by have:=HLOW.out _ e;omega).trans (Keeps.set (fun k hk=>hk.1) _))
  ·rw[HSET.out]
   exact b0l (a0m (S:=fun k=>w5.heap.size≤k) HO8.out HLOW.out (Keeps.set (fun k hk=>by omega) _)) hg9 hr9
  ·rw[HSET.out];exact HI.out.nlen
  ·have ht9:Touch (fun k=>k=g∨(Value.slice ps n cs).ownBlock=some k) w (w8.setCell ⟨g,1,none⟩ (.slice pl nl cl)):=by
    refine Touch.setCell ?_ ⟨g,1,none⟩ (Or.inl rfl) _
    exact(HI.out.touch.mono fun k hk=>Or.inr hk).trans' HT8.out fun k hk=>Or.inr (by have:=HLOW.out k hk;omega)
   exact⟨hg9.os.trans ht9.os,hg9.tape.trans ht9.tape,hg9.output.trans ht9.output,Nat.le_trans ht9.size hg9.size,fun k hk hn=>(hg9.block k (Nat.lt_of_lt_of_le hk ht9.size) (fun e=>by cases e;omega)).trans (ht9.block k hk hn)⟩
 case stop =>
  rintro D c pre W _ _ h _
  exact h.elim
end dsk
namespace dsk
set_option maxRecDepth 100000
open Go.ChangeShapes Go.WideShapes Go.ChangeAt Go.RowKit
open rows
open sec
def evOk(n:Nat)(e:Ev):Bool:=(decide (e.1=1) && decide (0≤e.2.1.pos∧e.2.1.pos<(n:Int))) || (decide (e.1=2) || decide (e.1=3))
def stStep(s:List (List Int)×List Wr)(e:Ev):List (List Int)×List Wr:=if e.1=1 then (s.1,s.2++[e.2.1]) else if e.1=2 then settle s.1 s.2 e.2.2 else s
def stAt(base:List (List Int))(es:List Ev)(k:Nat):List (List Int)×List Wr:=(es.take k).foldl stStep (base,[])
theorem b7d(base:List (List Int))(es:List Ev){k:Nat}(h:k<es.length):stAt base es (k+1)=stStep (stAt base es k) es[k]:=by
 rw[stAt,List.take_succ_eq_append_getElem h,List.foldl_append];rfl
structure StOk (n:Nat) (st:List (List Int)×List Wr) (k:Nat):Prop where
 secs:Secs st.1
 len:st.1.length=n
 good:∀x∈st.2,goodW n x
 few:st.2.length≤k
theorem c6n{n k:Nat}{st:List (List Int)×List Wr}(h:StOk n st k)(ts:List (Int×Int)):StOk n (settle st.1 st.2 ts) k:=by
 rw[settleI st.1 st.2 ts fun x hx=>d5e (h.good x hx).1.2.2.2.2,b2g _ _ fun x hx=>(h.good x hx).2.1]
 exact⟨a6z _ _ _ h.secs fun x hx=>(h.good x hx).1.1,(a8k _ _ _).trans h.len,fun x hx=>h.good x (c2r _ _ x hx),Nat.le_trans (c3f _ _) h.few⟩
theorem c8y(base:List (List Int))(es:List Ev)(n:Nat)(hb:Secs base)(hl:base.length=n)(hes:∀e∈es,e.2.1.ok)(ok:es.all (evOk n)=true):∀k,k≤es.length→StOk n (stAt base es k) k
 | 0,_=>⟨hb,hl,fun x hx=>(by cases hx),Nat.le_refl _⟩
 | k+1,hk=>by
  have hkl:k<es.length:=by omega
  have ih:=c8y base es n hb hl hes ok k (by omega)
  rw[b7d base es hkl,stStep]
  have he:=List.all_eq_true.1 ok _ (List.getElem_mem hkl)
  have ho:=hes _ (List.getElem_mem hkl)
  split
  ·rename_i h1
   refine⟨ih.secs,ih.len,fun x hx => ?_,by rw[List.length_append,List.length_singleton];have:=ih.few;omega⟩
   rcases List.mem_append.1 hx with hx|hx
   ·exact ih.good x hx
   ·rw[List.mem_singleton.1 hx]
    simp only[evOk,h1,decide_true,Bool.true_and,show ¬((1:Int)=2) by decide,show ¬((1:Int)=3) by decide,decide_false,Bool.or_false,decide_eq_true_eq] at he
    exact⟨ho,he.1,he.2⟩
  ·split
   ·have:=c6n ih es[k].2.2
    exact⟨this.secs,this.len,this.good,Nat.le_succ_of_le this.few⟩
   ·exact⟨ih.secs,ih.len,ih.good,Nat.le_succ_of_le ih.few⟩
structure CrLog (w:World) (p:Option Addr) (n c:Nat) (es:List Ev) (vs:List Value):Prop where
 evs:EvsIn (fun _=>True) w (.slice p n c) es n vs
 ok:∀e∈es,wf64 e.1∧e.2.1.ok∧∀t∈e.2.2,wf64 t.1∧wf64 t.2
 few:n≤80
 tags:∀e∈es,e.2.2.length≤50
theorem b6x{S:Nat→Prop}{w w':World}{p:Option Addr}{n c:Nat}{es:List Ev}{vs:List Value}(h:EvsIn S w (.slice p n c) es n vs)(k:Below w.heap.size w w'):EvsIn S w' (.slice p n c) es n vs :=
 ⟨h.len,h.cells.later k,h.at_,fun i hi=>let ⟨p,c,h1,h2,h3⟩:=h.tags i hi;⟨p,c,h1,h2.later k,h3⟩⟩
theorem CrLog.later{w w':World}{p:Option Addr}{n c:Nat}{es:List Ev}{vs:List Value}(h:CrLog w p n c es vs)(k:Below w.heap.size w w'):CrLog w' p n c es vs:=⟨b6x h.evs k,h.ok,h.few,h.tags⟩
theorem CrLog.len{w:World}{p:Option Addr}{n c:Nat}{es:List Ev}{vs:List Value}(h:CrLog w p n c es vs):es.length=n:=by
 have he:∀x∈es.zip vs,(evC x.1 x.2).length=38:=fun x hx=>a3p (h.ok _ (List.of_mem_zip hx).1).2.1.1
 have:=Rd.count (fun x:Ev×Value=>evC x.1 x.2) h.evs.cells he (by decide)
 rw[List.length_zip,h.evs.len,Nat.min_self] at this
 exact this
theorem CrLog.get{w:World}{p:Option Addr}{n c:Nat}{es:List Ev}{vs:List Value}(h:CrLog w p n c es vs){j:Nat}(hj:j<n) :
  ∃b o,p=some ⟨b,o,none⟩∧n≤c∧c≤maxLen∧b<w.heap.size∧∃hl:j<es.length,∃pt ct,w.rangeAt b (o+j * 38) (evC es[j] (.slice pt es[j].2.2.length ct))∧Rd w 2 (.slice pt es[j].2.2.length ct) es[j].2.2.length (tagsC es[j].2.2):=by
 have he:∀x∈es.zip vs,(evC x.1 x.2).length=38:=fun x hx=>a3p (h.ok _ (List.of_mem_zip hx).1).2.1.1
 obtain⟨b,o,rfl,h1,h2,h3,h4,h5⟩:=Rd.chunk (fun x:Ev×Value=>evC x.1 x.2) h.evs.cells he (by decide) hj
 have hl:j<es.length:=by rw[h.len];exact hj
 have hlz:j<(es.zip vs).length:=by omega
 obtain⟨pt,ct,hv,hr,_⟩:=h.evs.tags j hl
 have hvl:j<vs.length:=by rw[h.evs.len];exact hl
 have hr1:=h5 j hlz
 have hz:(es.zip vs)[j]=(es[j],vs[j]):=by simp
 have hvj:vs[j] = .slice pt es[j].2.2.length ct:=by
  rw[List.getElem?_eq_getElem hvl] at hv
  exact Option.some.inj hv
 rw[hz,hvj] at hr1
 exact⟨b,o,rfl,h1,h2,h3,hl,pt,ct,hr1,hr⟩
abbrev AtE(w:World)(g:Nat)(e:Ev)(v:Value):Prop:=w.heap[g]? = some (.cells (evC e v).toArray 143 (0,0))
theorem c8s:(Tryz.prog.info? 143).map (·.size)=some 38:=by kernel_rfl
theorem a2f(w:World):AtE (w.alloc (.cells (evC (0,w0,[]) (.slice none 0 0)).toArray 143)) w.heap.size (0,w0,[]) (.slice none 0 0):=heap_alloc_new _ _
theorem a6e{ops:Array Oper}{rest:List Oper}{o:Oper}{a:Act}{w:World}{Q:Exit→Act→World→Prop}(hgd:o.guard=none)(x:Operand)(ho:o.op = .load 143 x)
  (b off:Nat) (hx:a.eval x = .pointer (some ⟨b,off,none⟩)) (e:Ev) (v:Value) (hs:Sec e.2.1.s) (hg:w.rangeAt b off (evC e v))
  (h:wpList Tryz.prog ops Q rest (a.put o.dst (.agg (evC e v).toArray)) w):wpList Tryz.prog ops Q (o::rest) a w :=
 wpList_load_mid hgd 143 x ho b off hx (evC e v) _ hg d5h rfl (by rw[c8s,a3p hs]) h
theorem a4n{ops:Array Oper}{rest:List Oper}{o:Oper}{a:Act}{w:World}{Q:Exit→Act→World→Prop}(hgd:o.guard=none)(x y:Operand)(ho:o.op = .store 143 x y)(hd:o.dst=none)
  (g:Nat) (e old:Ev) (v vo:Value) (hx:a.eval x = .pointer (some ⟨g,0,none⟩)) (hy:a.eval y = .agg (evC e v).toArray) (hs:Sec e.2.1.s) (hv:v.oneCell'=true) (hold:Sec old.2.1.s) (hg:AtE w g old vo)
  (h:∀w',AtE w' g e v→Below g w w'→wpList Tryz.prog ops Q rest a w'):wpList Tryz.prog ops Q (o::rest) a w:=by
 refine wpList_store_row hgd 143 x y ho g (evC e v).toArray hx hy 143 _ hg (by rw[c8s];simp[a3p hs]) (by simp[a3p hs,a3p hold]) (by simp only[List.all_toArray];exact List.all_eq_true.2 (b0k e v hv)) ?_
 rw[hd]
 exact h _ (setRow_heap w g _ _ _ _ hg) ((Below.refl g w).trans ⟨rfl,rfl,rfl,by simp[World.setRow],fun k hk=>setRow_other w g k _ (by omega)⟩)
theorem AtE.parts{w:World}{g:Nat}{e:Ev}{v:Value}(h:AtE w g e v)(hs:Sec e.2.1.s):w.cell? ⟨g,0,none⟩=some (.int .i64 e.1)∧w.cell? ⟨g,1,none⟩=some (.int .i64 e.2.1.pos)∧w.rangeAt g 1 e.2.1.c∧w.cell? ⟨g,37,none⟩=some v:=by
 have hr:w.rangeAt g 0 (evC e v):=by
  have:=World.rangeAt_of_block h 0 (evC e v).toArray.size
  simpa using this
 have hm:=b7n (k:=1) hr
 refine⟨by have:=hr 0 _ rfl;simpa using this,by have:=hr 1 _ rfl;simpa using this,b3x (r:=[v]) (by simpa [evC] using hm),?_⟩
 have:=hr 37 v (by
  rw[evC,List.getElem?_cons_succ,List.getElem?_append_right (by rw[Wr.c_len hs];omega),Wr.c_len hs]
  rfl)
 simpa using this
end dsk
namespace dsk
set_option maxRecDepth 100000
open Go.ChangeShapes Go.WideShapes Go.ChangeAt Go.RowKit
open rows
open sec
theorem b0t{α:Type}(f:α→Bool)(l:List α){j:Nat}(h:j<l.length)(h0:(l.take j).all f=true):(l.take (j+1)).all f=f l[j]:=by
 rw[List.take_succ_eq_append_getElem h,List.all_append,h0];simp
theorem all_not{α:Type}(f:α→Bool)(l:List α){j:Nat}(h:j<l.length)(h0:f l[j]=false):l.all f=false:=by
 rw[List.all_eq_false]
 exact⟨_,List.getElem_mem h,by rw[h0];decide⟩
theorem evOk1(n:Nat)(x:Wr)(ts:List (Int×Int)):evOk n (1,x,ts)=decide (0≤x.pos∧x.pos<(n:Int)):=by simp[evOk]
theorem evOk2(n:Nat)(x:Wr)(ts:List (Int×Int)):evOk n (2,x,ts)=true:=by simp[evOk]
theorem evOk3(n:Nat)(x:Wr)(ts:List (Int×Int)):evOk n (3,x,ts)=true:=by simp[evOk]
theorem evOk0(n:Nat)(k:Int)(x:Wr)(ts:List (Int×Int))(h1:k≠1)(h2:k≠2)(h3:k≠3):evOk n (k,x,ts)=false:=by simp[evOk,h1,h2,h3]
set_option maxRecDepth 100000 in
set_option maxHeartbeats 3200000 in
theorem cpossibleE(w:World)(p:Option Addr)(n c:Nat)(es:List Ev)(vs:List Value)(s:Nat)(h:CrLog w p n c es vs)(hs:s≤1000) :
  Calls Tryz.prog 97 #[.slice p n c,.int .i64 (s:Int)] w (Rt w (.bool (es.all (evOk s)))):=by
 have HL:=ι h
 have hln:=h.len
 have HLN:=ι hln
 have hn8:=h.few
 have hn1:(n:Int)≤1000:=by omega
 clear h hln
 go_enter Tryz.func97,Tryz.ntmps97
 go_wp2
 go_loopw [9] (fun iv wr=>∃(j:Nat),j≤n∧iv = .int .i64 (j:Int)∧Hid ((es.take j).all (evOk s)=true)∧Below w.heap.size w wr) (fun iv _=>n-(intOf iv).toNat)
 case atStart=>exact⟨0,by omega,rfl,ι rfl,Below.refl _ _⟩
 case round =>
  obtain⟨j,hj,rfl,HA,hbr⟩:=hrel
  by_cases ha:j<n
  ·have ha1:(j:Int)<n:=by omega
   obtain⟨b1,o1,rfl,hc1,hmm1,hh1,hjl,pt,ct,hr1,_⟩:=HL.out.get ha
   have HRG:=ι (Rd.rangeLater hr1 hh1 hbr)
   have hok:=HL.out.ok _ (List.getElem_mem hjl)
   have HAN:=ι (b0t (evOk s) es hjl HA.out)
   have HNO:Hid (evOk s es[j]=false→es.all (evOk s)=false):=ι (all_not (evOk s) es hjl)
   generalize es[j]=e at *
   obtain⟨k,x,ts⟩:=e
   have HSX:Hid (Sec x.s):=ι hok.2.1.1
   clear hr1 hok
   dsimp only at HRG
   generalize hve:(Value.slice pt ts.length ct)=ve at *
   have hvo:ve.oneCell'=true:=by rw[← hve];rfl
   clear hve
   by_cases h1:k=1
   ·subst h1
    rw[evOk1] at HAN HNO
    have HCW:=ι fun w'=>cwithin x.pos s w' hs
    obtain⟨d,hd⟩:∃d,decide (0≤x.pos∧x.pos<(s:Int))=d:=⟨_,rfl⟩
    rw[hd] at HAN HNO HCW
    clear hd
    cases d with
    | true =>
     go_wp2_with (first|(refine a6e rfl (.tmp 11) rfl b1 (o1+j * 38) rfl (1,x,ts) ve HSX.out HRG.out ?_)|(refine a4n rfl _ _ rfl rfl wr.heap.size (1,x,ts) (0,w0,[]) ve (.slice none 0 0) rfl rfl HSX.out hvo a0g (a2f wr) ?_;intro w5 hx5 hb5;have HB5:=ι (a0b hbr ((a0a (Below.refl _ wr) _).trans hb5));obtain⟨c0,c1,_,_⟩:=AtE.parts hx5 HSX.out;clear hx5 hb5)|(go_at_call 100;refine(HCW.out _).mono ?_;rintro e w2 ⟨rfl,rfl⟩))
     exact⟨⟨j+1,by omega,by go_num,HAN,HB5.out⟩,by simp[intOf];omega⟩
    | false =>
     go_wp2_with (first|(refine a6e rfl (.tmp 11) rfl b1 (o1+j * 38) rfl (1,x,ts) ve HSX.out HRG.out ?_)|(refine a4n rfl _ _ rfl rfl wr.heap.size (1,x,ts) (0,w0,[]) ve (.slice none 0 0) rfl rfl HSX.out hvo a0g (a2f wr) ?_;intro w5 hx5 hb5;have HB5:=ι (a0b hbr ((a0a (Below.refl _ wr) _).trans hb5));obtain⟨c0,c1,_,_⟩:=AtE.parts hx5 HSX.out;clear hx5 hb5)|(go_at_call 100;refine(HCW.out _).mono ?_;rintro e w2 ⟨rfl,rfl⟩))
     go_ret
     exact⟨by rw[HNO.out (by first|trivial|rfl)];rfl,HB5.out⟩
   ·have hk1:decide (k=1)=false:=by simpa using h1
    by_cases h2:k=2
    ·subst h2
     rw[evOk2] at HAN
     go_wp2_with (first|(refine a6e rfl (.tmp 11) rfl b1 (o1+j * 38) rfl (2,x,ts) ve HSX.out HRG.out ?_)|(refine a4n rfl _ _ rfl rfl wr.heap.size (2,x,ts) (0,w0,[]) ve (.slice none 0 0) rfl rfl HSX.out hvo a0g (a2f wr) ?_;intro w5 hx5 hb5;have HB5:=ι (a0b hbr ((a0a (Below.refl _ wr) _).trans hb5));obtain⟨c0,c1,_,_⟩:=AtE.parts hx5 HSX.out;clear hx5 hb5)|(go_at_call 100;refine(HCW.out _).mono ?_;rintro e w2 ⟨rfl,rfl⟩))
     exact⟨⟨j+1,by omega,by go_num,HAN,HB5.out⟩,by simp[intOf];omega⟩
    ·have hk2:decide (k=2)=false:=by simpa using h2
     by_cases h3:k=3
     ·subst h3
      rw[evOk3] at HAN
      go_wp2_with (first|(refine a6e rfl (.tmp 11) rfl b1 (o1+j * 38) rfl (3,x,ts) ve HSX.out HRG.out ?_)|(refine a4n rfl _ _ rfl rfl wr.heap.size (3,x,ts) (0,w0,[]) ve (.slice none 0 0) rfl rfl HSX.out hvo a0g (a2f wr) ?_;intro w5 hx5 hb5;have HB5:=ι (a0b hbr ((a0a (Below.refl _ wr) _).trans hb5));obtain⟨c0,c1,_,_⟩:=AtE.parts hx5 HSX.out;clear hx5 hb5)|(go_at_call 100;refine(HCW.out _).mono ?_;rintro e w2 ⟨rfl,rfl⟩))
      exact⟨⟨j+1,by omega,by go_num,HAN,HB5.out⟩,by simp[intOf];omega⟩
     ·have hk3:decide (k=3)=false:=by simpa using h3
      rw[evOk0 s k x ts h1 h2 h3] at HNO
      go_wp2_with (first|(refine a6e rfl (.tmp 11) rfl b1 (o1+j * 38) rfl (k,x,ts) ve HSX.out HRG.out ?_)|(refine a4n rfl _ _ rfl rfl wr.heap.size (k,x,ts) (0,w0,[]) ve (.slice none 0 0) rfl rfl HSX.out hvo a0g (a2f wr) ?_;intro w5 hx5 hb5;have HB5:=ι (a0b hbr ((a0a (Below.refl _ wr) _).trans hb5));obtain⟨c0,c1,_,_⟩:=AtE.parts hx5 HSX.out;clear hx5 hb5)|(go_at_call 100;refine(HCW.out _).mono ?_;rintro e w2 ⟨rfl,rfl⟩))
      go_ret
      exact⟨by rw[HNO.out (by first|trivial|rfl)];rfl,HB5.out⟩
  ·obtain rfl:n=j:=by omega
   have ha1:¬((n:Int)<n):=by omega
   have HAE:Hid (es.all (evOk s)=true):=ι (by have h:=HA.out;rwa [List.take_of_length_le (by rw[HLN.out];omega)] at h)
   go_wp2_with fail
   go_ret
   exact⟨by rw[HAE.out];rfl,hbr⟩
end dsk
namespace dsk
set_option maxRecDepth 100000
open Go.ChangeShapes Go.WideShapes Go.ChangeAt Go.RowKit
open rows
open sec
def atOk(n m:Nat)(es:List Ev)(k:Int):Bool:=(decide (1≤n∧n≤65) && es.all (evOk n)) && decide (0≤k∧k≤(m:Int))
def atSt(n m:Nat)(base:List (List Int))(es:List Ev)(k:Int):List (List Int)×List Wr:=if atOk n m es k=true then stAt base es k.toNat else ([],[])
def AtDone(n m:Nat)(base:List (List Int))(es:List Ev)(k:Int)(w:World)(e:Ending)(w':World):Prop :=
 Below w.heap.size w w'∧∃ps ns cs pw mw cw,e = .returned (.tuple #[.agg #[.slice ps ns cs,.slice pw mw cw],.bool (atOk n m es k)]) ∧
  Rd w' 32 (.slice ps ns cs) ns (cellsOf (atSt n m base es k).1)∧ns=(atSt n m base es k).1.length∧Rd w' 36 (.slice pw mw cw) mw (wrsC (atSt n m base es k).2)∧mw=(atSt n m base es k).2.length
theorem b7z{n m:Nat}{base:List (List Int)}{es:List Ev}{k:Int}{w w':World}{e:Ending}(h:atOk n m es k=false)(he:e = .returned (.tuple #[.agg #[.slice none 0 0,.slice none 0 0],.bool false]))(hb:Below w.heap.size w w'):AtDone n m base es k w e w':=by
 have hs:atSt n m base es k=([],[]):=by rw[atSt,h];rfl
 refine⟨hb,none,0,0,none,0,0,by rw[h];exact he,?_,?_,?_,?_⟩
 all_goals rw[hs]
 ·exact a6d _ _
 ·rfl
 ·exact a6d _ _
 ·rfl
theorem d1m{ss:List (List Int)}{u:Value}(hu:u∈cellsOf ss):u.oneCell'=true:=by
 rw[a2v] at hu
 obtain⟨l,hl,hul⟩:=List.mem_flatten.1 hu
 obtain⟨x,_,rfl⟩:=List.mem_map.1 hl
 obtain⟨y,_,rfl⟩:=List.mem_map.1 hul
 rfl
theorem c5u{w:World}{B:Nat}{e:TypeId}{sz n:Nat}{v:Value}{cs:List Value}(h:rows.Own w B e sz v n cs):rows.Own w 0 e sz v n cs:=by
 rcases h.2 with h2|⟨g,cap,cur,hv,h3,h4⟩
 ·exact⟨h.1,Or.inl h2⟩
 ·exact⟨h.1,Or.inr ⟨g,cap,cur,hv,Nat.zero_le _,h4⟩⟩
structure AtIn (w:World) (pb:Option Addr) (n cb:Nat) (base:List (List Int)) (p:Option Addr) (m c:Nat) (es:List Ev) (vs:List Value) (k:Int):Prop where
 bs:Rd w 32 (.slice pb n cb) n (cellsOf base)
 secs:Secs base
 ln:base.length=n
 few:n≤1000
 log:CrLog w p m c es vs
 kw:wf64 k
structure AtI (w:World) (g:Nat) (ps:Option Addr) (n cs:Nat) (pl:Option Addr) (nl cl:Nat) (st:List (List Int)×List Wr) (W:World):Prop where
 row:W.heap[g]? = some (.cells #[.slice ps n cs,.slice pl nl cl] 67 (0,0))
 res:W.heap[w.heap.size]? = some (.cells #[.slice none 0 0,.slice none 0 0] 67 (0,0))
 safe:rows.Own W 0 95 32 (.slice ps n cs) n (cellsOf st.1)
 wait:rows.Own W 0 99 36 (.slice pl nl cl) nl (wrsC st.2)
 nlen:nl=st.2.length
 psl:∀k,(Value.slice ps n cs).ownBlock=some k→w.heap.size<k∧k≠g
 pll:∀k,(Value.slice pl nl cl).ownBlock=some k→w.heap.size<k∧k≠g∧(Value.slice ps n cs).ownBlock≠some k
 below:Below w.heap.size w W
 gl:w.heap.size<g
theorem AtI.later{w:World}{g:Nat}{ps:Option Addr}{n cs:Nat}{pl:Option Addr}{nl cl:Nat}{st:List (List Int)×List Wr}{W W':World}(h:AtI w g ps n cs pl nl cl st W)(hb:Below W.heap.size W W'):AtI w g ps n cs pl nl cl st W' :=
 ⟨(hb.block _ (Array.getElem?_eq_some_iff.1 h.row).1).trans h.row,(hb.block _ (Array.getElem?_eq_some_iff.1 h.res).1).trans h.res,a0n h.safe hb,a0n h.wait hb,h.nlen,h.psl,h.pll,a0b h.below hb,h.gl⟩
theorem AtI.app{w:World}{g:Nat}{ps:Option Addr}{n cs:Nat}{pl pa:Option Addr}{nl cl ca:Nat}{st:List (List Int)×List Wr}{W W1:World}(h:AtI w g ps n cs pl nl cl st W)(x:Wr)(ts:List (Int×Int))
  (ht:Touch (fun k=>(Value.slice pl nl cl).ownBlock=some k) W W1) (ho:rows.Own W1 0 99 36 (.slice pa (nl+1) ca) (nl+1) (wrsC st.2++x.c)) (hl:∀k,(Value.slice pa (nl+1) ca).ownBlock=some k→(Value.slice pl nl cl).ownBlock=some k∨W.heap.size≤k) :
  AtI w g ps n cs pa (nl+1) ca (stStep st (1,x,ts)) (W1.setCell ⟨g,1,none⟩ (.slice pa (nl+1) ca)):=by
 have hgW:=(Array.getElem?_eq_some_iff.1 h.row).1
 have hsW:∀k,(Value.slice ps n cs).ownBlock=some k→k<W.heap.size:=fun k hk=>(World.ownsRow.lt h.safe k hk).2
 have hg1:W1.heap[g]? = some (.cells #[.slice ps n cs,.slice pl nl cl] 67 (0,0)):=(ht.block _ hgW fun e=>(h.pll g e).2.1 rfl).trans h.row
 have hpa:∀k,(Value.slice pa (nl+1) ca).ownBlock=some k→w.heap.size<k∧k≠g∧(Value.slice ps n cs).ownBlock≠some k:=fun k hk=>by
  rcases hl k hk with h1|h1
  ·exact h.pll k h1
  ·exact⟨by have:=h.gl;omega,by omega,fun e=>by have:=hsW k e;omega⟩
 have hK:Keeps (· ≠ g) W1 (W1.setCell ⟨g,1,none⟩ (.slice pa (nl+1) ca)):=Keeps.set (fun k hk=>hk) _
 have e:stStep st (1,x,ts)=(st.1,st.2++[x]):=by simp[stStep]
 rw[e]
 refine⟨?_,?_,?_,?_,by simp[h.nlen],h.psl,hpa,?_,h.gl⟩
 ·have:=a0d (i:=1) hg1 (.slice pa (nl+1) ca)
  simpa using this
 ·exact(Below.heap_setCell _ _ _ _ (show w.heap.size≠g by have:=h.gl;omega)).trans ((ht.block _ (Array.getElem?_eq_some_iff.1 h.res).1 fun e=>by have:=(h.pll _ e).1;omega).trans h.res)
 ·exact a0m h.safe (S:=fun k=>(Value.slice pl nl cl).ownBlock≠some k∧k≠g) (fun k hk=>⟨fun e=>(h.pll k e).2.2 hk,(h.psl k hk).2⟩) ((ht.keeps fun k hk=>hk.1).trans (Keeps.set (fun k hk=>hk.2) _))
 ·rw[b6z]
  exact a0m ho (S:=(· ≠ g)) (fun k hk=>(hpa k hk).2.1) hK
 ·exact(h.below.trans (ht.below h.below.size fun k hk=>Nat.le_of_lt (h.pll k hk).1)).setCell (p:=⟨g,1,none⟩) (Nat.le_of_lt h.gl) _
theorem AtI.syn{w:World}{g:Nat}{ps:Option Addr}{n cs:Nat}{pl pa:Option Addr}{nl cl na ca:Nat}{st:List (List Int)×List Wr}{W W1:World}(h:AtI w g ps n cs pl nl cl st W)(x:Wr)(ts:List (Int×Int))
  (hr:W1.heap[g]? = some (.cells #[.slice ps n cs,.slice pa na ca] 67 (0,0))) (h1:rows.Own W1 0 95 32 (.slice ps n cs) n (cellsOf (settle st.1 st.2 ts).1)) (h2:rows.Own W1 0 99 36 (.slice pa na ca) na (wrsC (settle st.1 st.2 ts).2)) (h3:na=(settle st.1 st.2 ts).2.length)
  (h4:∀k,(Value.slice pa na ca).ownBlock=some k→W.heap.size≤k) (ht:Touch (fun k=>k=g∨(Value.slice ps n cs).ownBlock=some k) W W1):AtI w g ps n cs pa na ca (stStep st (2,x,ts)) W1:=by
 have hgW:=(Array.getElem?_eq_some_iff.1 h.row).1
 have hsW:∀k,(Value.slice ps n cs).ownBlock=some k→k<W.heap.size:=fun k hk=>(World.ownsRow.lt h.safe k hk).2
 have e:stStep st (2,x,ts)=settle st.1 st.2 ts:=by simp[stStep]
 rw[e]
 refine⟨hr,?_,h1,h2,h3,h.psl,fun k hk => ?_,?_,h.gl⟩
 ·exact(ht.block _ (Array.getElem?_eq_some_iff.1 h.res).1 fun e=>by
   rcases e with e|e
   ·have:=h.gl;omega
   ·have:=(h.psl _ e).1;omega).trans h.res
 ·have:=h4 k hk
  exact⟨by have:=h.gl;omega,by omega,fun e=>by have:=hsW k e;omega⟩
 ·exact h.below.trans (ht.below h.below.size fun k hk=>by
   rcases hk with rfl|hk
   ·exact Nat.le_of_lt h.gl
   ·exact Nat.le_of_lt (h.psl k hk).1)
theorem AtI.idle{w:World}{g:Nat}{ps:Option Addr}{n cs:Nat}{pl:Option Addr}{nl cl:Nat}{st:List (List Int)×List Wr}{W:World}(h:AtI w g ps n cs pl nl cl st W)(x:Wr)(ts:List (Int×Int)):AtI w g ps n cs pl nl cl (stStep st (3,x,ts)) W:=by
 rw[show stStep st (3,x,ts)=st by simp[stStep]]
 exact h
set_option maxRecDepth 100000 in
set_option maxHeartbeats 3200000 in
theorem cat_big(w:World)(pb:Option Addr)(n cb:Nat)(base:List (List Int))(p:Option Addr)(m c:Nat)(es:List Ev)(vs:List Value)(k:Int)(h:AtIn w pb n cb base p m c es vs k)(hn:¬(1≤n∧n≤65)) :
  Calls Tryz.prog 33 #[.slice pb n cb,.slice p m c,.int .i64 k] w (AtDone n m base es k w):=by
 have HF:Hid (atOk n m es k=false):=ι (by rw[atOk,show decide (1≤n∧n≤65)=false by simpa using hn];simp)
 have hn1:=h.few
 clear h
 by_cases h1:n<1
 ·have ha:(n:Int)<1:=by omega
  go_enter Tryz.func33,Tryz.ntmps33
  go_wp2_with fail
  exact a9d rfl w.heap.size (.slice none 0 0) (.slice none 0 0) (.bool false) rfl rfl (heap_alloc_new _ _) rfl (b7z HF.out rfl (a0a (Below.refl _ _) _))
 ·have ha:¬((n:Int)<1):=by omega
  have hb:(65:Int)<n:=by omega
  go_enter Tryz.func33,Tryz.ntmps33
  go_wp2_with fail
  exact a9d rfl w.heap.size (.slice none 0 0) (.slice none 0 0) (.bool false) rfl rfl (heap_alloc_new _ _) rfl (b7z HF.out rfl (a0a (Below.refl _ _) _))
set_option maxRecDepth 100000 in
set_option maxHeartbeats 3200000 in
theorem cat_bad(w:World)(pb:Option Addr)(n cb:Nat)(base:List (List Int))(p:Option Addr)(m c:Nat)(es:List Ev)(vs:List Value)(k:Int)(h:AtIn w pb n cb base p m c es vs k)(hn:1≤n∧n≤65)(hp:(es.all (evOk n) && decide (0≤k∧k≤(m:Int)))=false) :
  Calls Tryz.prog 33 #[.slice pb n cb,.slice p m c,.int .i64 k] w (AtDone n m base es k w):=by
 have HF:Hid (atOk n m es k=false):=ι (by rw[atOk,Bool.and_assoc,hp,Bool.and_false])
 have hn1:=h.few
 have ha:¬((n:Int)<1):=by omega
 have hb:¬((65:Int)<n):=by omega
 obtain⟨q,hq⟩:∃q,es.all (evOk n)=q:=⟨_,rfl⟩
 have hb1:Below w.heap.size w (w.alloc (.cells #[.slice none 0 0,.slice none 0 0] 67)):=a0a (Below.refl _ _) _
 have HP:=ι (cpossibleE _ p m c es vs n (h.log.later hb1) (by omega))
 rw[hq] at HP hp
 have HB1:=ι hb1
 have hm1:=h.log.few
 clear h hq hb1
 cases q with
 | false =>
  clear hp
  go_enter Tryz.func33,Tryz.ntmps33
  go_wp2_with (first|(refine a8n rfl _ _ rfl rfl w.heap.size (.slice none 0 0) (.slice none 0 0) (.slice none 0 0) (.slice none 0 0) rfl rfl rfl rfl hr2 ?_;intro w3 hr3 ht3;have HB3:=ι (HB2.out.trans (ht3.below HB2.out.size (fun i hi=>Nat.le_of_eq hi.symm)));clear ht3)|(go_at_call 97;refine HP.out.mono ?_;rintro e w2 ⟨rfl,hb2⟩;have hr2:w2.heap[w.heap.size]? = some (.cells #[.slice none 0 0,.slice none 0 0] 67 (0,0)):=(hb2.block _ (by rw[size_alloc];omega)).trans (heap_alloc_new _ _);have HB2:=ι (HB1.out.trans (hb2.mono HB1.out.size));clear hb2))
  exact a9d rfl w.heap.size (.slice none 0 0) (.slice none 0 0) (.bool false) rfl rfl hr3 rfl (b7z HF.out rfl HB3.out)
 | true =>
  have hk:¬(0≤k∧k≤(m:Int)):=by simpa using hp
  clear hp
  by_cases hk0:k<0
  ·go_enter Tryz.func33,Tryz.ntmps33
   go_wp2_with (first|(refine a8n rfl _ _ rfl rfl w.heap.size (.slice none 0 0) (.slice none 0 0) (.slice none 0 0) (.slice none 0 0) rfl rfl rfl rfl hr2 ?_;intro w3 hr3 ht3;have HB3:=ι (HB2.out.trans (ht3.below HB2.out.size (fun i hi=>Nat.le_of_eq hi.symm)));clear ht3)|(go_at_call 97;refine HP.out.mono ?_;rintro e w2 ⟨rfl,hb2⟩;have hr2:w2.heap[w.heap.size]? = some (.cells #[.slice none 0 0,.slice none 0 0] 67 (0,0)):=(hb2.block _ (by rw[size_alloc];omega)).trans (heap_alloc_new _ _);have HB2:=ι (HB1.out.trans (hb2.mono HB1.out.size));clear hb2))
   exact a9d rfl w.heap.size (.slice none 0 0) (.slice none 0 0) (.bool false) rfl rfl hr3 rfl (b7z HF.out rfl HB3.out)
  ·have hkm:(m:Int)<k:=by omega
   go_enter Tryz.func33,Tryz.ntmps33
   go_wp2_with (first|(refine a8n rfl _ _ rfl rfl w.heap.size (.slice none 0 0) (.slice none 0 0) (.slice none 0 0) (.slice none 0 0) rfl rfl rfl rfl hr2 ?_;intro w3 hr3 ht3;have HB3:=ι (HB2.out.trans (ht3.below HB2.out.size (fun i hi=>Nat.le_of_eq hi.symm)));clear ht3)|(go_at_call 97;refine HP.out.mono ?_;rintro e w2 ⟨rfl,hb2⟩;have hr2:w2.heap[w.heap.size]? = some (.cells #[.slice none 0 0,.slice none 0 0] 67 (0,0)):=(hb2.block _ (by rw[size_alloc];omega)).trans (heap_alloc_new _ _);have HB2:=ι (HB1.out.trans (hb2.mono HB1.out.size));clear hb2))
   exact a9d rfl w.heap.size (.slice none 0 0) (.slice none 0 0) (.bool false) rfl rfl hr3 rfl (b7z HF.out rfl HB3.out)
end dsk
namespace dsk
set_option maxRecDepth 100000
open Go.ChangeShapes Go.WideShapes Go.ChangeAt Go.RowKit
open rows
open sec
theorem d4n{w:World}{B:Nat}{e:TypeId}{sz n m c:Nat}{p:Option Addr}{cs:List Value}{S:Nat→Prop}(h:rows.Own w B e sz (.slice p m c) n cs)(hS:∀k,(Value.slice p m c).ownBlock=some k→S k):InS S (.slice p m c):=fun a n' c' hv hn'=>by
 cases hv
 exact hS _ rfl
set_option maxRecDepth 100000 in
set_option maxHeartbeats 3200000 in
theorem d5c(w:World)(pb:Option Addr)(n cb:Nat)(base:List (List Int))(p:Option Addr)(m c:Nat)(es:List Ev)(vs:List Value)(k:Nat)(h:AtIn w pb n cb base p m c es vs (k:Int))(hn:1≤n∧n≤65)(hq:es.all (evOk n)=true)(hk:k≤m) :
  Calls Tryz.prog 33 #[.slice pb n cb,.slice p m c,.int .i64 (k:Int)] w (AtDone n m base es (k:Int) w):=by
 have HT:Hid (atOk n m es (k:Int)=true∧atSt n m base es (k:Int)=stAt base es k):=ι (by
  have h1:atOk n m es (k:Int)=true:=by rw[atOk,hq];simp[hn];omega
  exact⟨h1,by rw[atSt,if_pos h1];rfl⟩)
 have hn1:=h.few
 have ha:¬((n:Int)<1):=by omega
 have hb:¬((65:Int)<n):=by omega
 have hb1:Below w.heap.size w (w.alloc (.cells #[.slice none 0 0,.slice none 0 0] 67)):=a0a (Below.refl _ _) _
 have HP:=ι (cpossibleE _ p m c es vs n (h.log.later hb1) (by omega))
 rw[hq] at HP
 have HB1:=ι hb1
 have hm1:=h.log.few
 have hkc:k≤c:=by
  rcases h.log.evs.cells with⟨p',cap',h1,h2,_⟩|⟨b,off,cap,h1,_,h2,_⟩
  ·cases h1;omega
  ·cases h1;omega
 have hk0:¬((k:Int)<0):=by omega
 have hkm:¬((m:Int)<(k:Int)):=by omega
 have HIN:=ι h
 have HST:Hid (∀j,j≤k→StOk n (stAt base es j) j):=ι fun j hj=>c8y base es n h.secs h.ln (fun e he=>(h.log.ok e he).2.1) hq j (by rw[h.log.len];omega)
 have HQ:=ι hq
 clear h hq hb1
 go_enter Tryz.func33,Tryz.ntmps33
 go_wp2_with (first|(go_at_call 97;refine HP.out.mono ?_;rintro e w2 ⟨rfl,hb2⟩;have hr2:w2.heap[w.heap.size]? = some (.cells #[.slice none 0 0,.slice none 0 0] 67 (0,0)):=(hb2.block _ (by rw[size_alloc];omega)).trans (heap_alloc_new _ _);have HR2:=ι hr2;have HB2:=ι (HB1.out.trans (hb2.mono HB1.out.size));clear hb2 hr2)|(go_at_call 57;refine(a7e pb n cb (cellsOf base) w2 (HIN.out.bs.later HB2.out) (fun u hu=>d1m hu) hn1).mono ?_;rintro e w3 ⟨ps,cs,rfl,ho3,hb3⟩;have HO3:=ι ho3;have HB3:=ι hb3;clear ho3 hb3))
 have HB3w:Hid (Below w.heap.size w w3):=ι (a0b HB2.out HB3.out)
 have hs23:=HB3.out.size
 have hs12:=HB2.out.size
 have hs02:w.heap.size<w2.heap.size:=(Array.getElem?_eq_some_iff.1 HR2.out).1
 have HR3:Hid (w3.heap[w.heap.size]? = some (.cells #[.slice none 0 0,.slice none 0 0] 67 (0,0))):=ι ((HB3.out.block _ hs02).trans HR2.out)
 have hI0:AtI w w3.heap.size ps n cs none 0 0 (stAt base es 0) (w3.alloc (.cells #[.slice ps n cs,.slice none 0 0] 67)):=by
  refine⟨heap_alloc_new _ _,a2g HR3.out _,c5u (HO3.out.alloc _),a2q _ _ _ _,rfl,fun k' hk' => ?_,fun k' hk'=>by simp[Value.ownBlock] at hk',a0a HB3w.out _,by omega⟩
  have h1:=World.ownsRow.lt HO3.out k' hk'
  omega
 have HI0:=ι hI0
 clear hI0
 go_loopw [43] (fun iv wr=>∃(j:Nat),j≤k∧iv = .int .i64 (j:Int)∧Hid (∃pl nl cl,AtI w w3.heap.size ps n cs pl nl cl (stAt base es j) wr)) (fun iv _=>k-(intOf iv).toNat)
 case atStart=>exact⟨0,by omega,rfl,ι ⟨none,0,0,HI0.out⟩⟩
 case round =>
  obtain⟨j,hj,rfl,HI⟩:=hrel
  have HLOG:=ι HIN.out.log
  by_cases ha:j<k
  ·have ha1:(j:Int)<k:=by omega
   obtain⟨b1,o1,rfl,hc1,hmm1,hh1,hjl,pt,ct,hr1,ht1⟩:=HLOG.out.get (show j<m by omega)
   obtain⟨pl,nl,cl,hI⟩:=HI.out
   have hbr:=hI.below
   have HRG:=ι (Rd.rangeLater hr1 hh1 hbr)
   have HTG:=ι (ht1.later hbr)
   have hok:=HLOG.out.ok _ (List.getElem_mem hjl)
   have hso:=HST.out j hj
   have HSN:=ι (b7d base es hjl)
   have htq:=HLOG.out.tags _ (List.getElem_mem hjl)
   have HEV:=ι (List.all_eq_true.1 HQ.out _ (List.getElem_mem hjl))
   generalize es[j]=e at *
   obtain⟨kd,x,ts⟩:=e
   dsimp only at hr1 ht1 HRG HTG hok htq
   have hev:evOk n (kd,x,ts)=true:=HEV.out
   have hkd:kd=1∨kd=2∨kd=3:=by
    simp only[evOk,Bool.or_eq_true,Bool.and_eq_true,decide_eq_true_eq] at hev
    omega
   have HSX:Hid (Sec x.s):=ι hok.2.1.1
   have HOK:=ι hok
   have HSO:=ι hso
   have hnl:nl≤80:=by have h1:=hI.nlen;have h2:=hso.few;omega
   have HIN5:=ι hI
   obtain⟨tq,htqe⟩:∃tq,ts.length=tq:=⟨_,rfl⟩
   rw[htqe] at HRG HTG htq
   have HIS:Hid (InS (fun b=>b≠w3.heap.size∧(Value.slice ps n cs).ownBlock≠some b) (.slice pl nl cl)):=ι (d4n hI.wait fun k' hk'=>(hI.pll k' hk').2)
   have HGS:Hid (∀k,(Value.slice ps n cs).ownBlock=some k→k≠w3.heap.size):=ι fun k' hk'=>(hI.psl k' hk').2
   have HBR:=ι hbr
   clear hr1 ht1 hok hev hI hso HI HIN HP HEV hbr
   rcases hkd with rfl|rfl|rfl
   ·go_wp2_with (first|(refine a6e rfl (.tmp 45) rfl b1 (o1+j * 38) rfl (1,x,ts) (.slice pt tq ct) HSX.out HRG.out ?_)|(refine a4n rfl _ _ rfl rfl wr.heap.size (1,x,ts) (0,w0,[]) (.slice pt tq ct) (.slice none 0 0) rfl rfl HSX.out rfl a0g (a2f wr) ?_;intro w5 hx5 hb5;have hb5r:=(a0a (Below.refl _ wr) _).trans hb5;have hI5:=HIN5.out.later hb5r;obtain⟨c0,_,rx5,c37⟩:=AtE.parts hx5 HSX.out;have cr5:=a0c hI5.row 1 _ rfl;clear c37;have HI5:=ι hI5;have HX5:=ι rx5;have HT5:=ι (HTG.out.later hb5r);have hlt5:=(Array.getElem?_eq_some_iff.1 hx5).1;clear hx5 hb5 hb5r hI5 rx5)|(refine a3o rfl (.tmp 53) rfl wr.heap.size 1 rfl x HSX.out HX5.out ?_)|(refine a0q a5z (by decide) rfl (.tmp 54) rfl x.c rfl (Wr.c_len HSX.out) ?_)|(at_builtin;refine b8j a5z rfl (.tmp 52) (.tmp 55) rfl _ nl _ rfl (HI5.out.wait.alloc _) _ 1 x.c rfl (a1v _ _ _ _ (Wr.c_len HSX.out)) (a4u x) (by omega) ?_;intro pa ca wa hoa hta hla;have hta2:=b1z hta;have hra:=(hta2.block _ (Array.getElem?_eq_some_iff.1 HI5.out.row).1 (fun e=>(HI5.out.pll _ e).2.1 rfl)).trans HI5.out.row;have cra:=a0c hra 1 _ rfl;have fra:=a0e hra 1;have HOA:=ι hoa;have HTA:=ι hta2;have HLA:=ι hla;clear hoa hta hta2 hla hra))
    have hI7:=HI5.out.app x ts HTA.out HOA.out (fun k' hk'=>by
     rcases HLA.out k' hk' with h1|h1
     ·exact Or.inl h1
     ·have:=h1.1
      rw[size_alloc] at this
      exact Or.inr (by omega))
    exact⟨⟨j+1,by omega,by go_num,ι ⟨pa,nl+1,ca,by rw[HSN.out];exact hI7⟩⟩,by simp[intOf];omega⟩
   ·go_wp2_with (first|(refine a6e rfl (.tmp 45) rfl b1 (o1+j * 38) rfl (2,x,ts) (.slice pt tq ct) HSX.out HRG.out ?_)|(refine a4n rfl _ _ rfl rfl wr.heap.size (2,x,ts) (0,w0,[]) (.slice pt tq ct) (.slice none 0 0) rfl rfl HSX.out rfl a0g (a2f wr) ?_;intro w5 hx5 hb5;have hb5r:=(a0a (Below.refl _ wr) _).trans hb5;have hI5:=HIN5.out.later hb5r;obtain⟨c0,_,rx5,c37⟩:=AtE.parts hx5 HSX.out;skip;have HI5:=ι hI5;have HX5:=ι rx5;have HT5:=ι (HTG.out.later hb5r);have hlt5:=(Array.getElem?_eq_some_iff.1 hx5).1;clear hx5 hb5 hb5r hI5 rx5)|(go_at_call 98;refine(csyncS w5 w3.heap.size ps n cs pl nl cl pt tq ct (stAt base es j).1 (stAt base es j).2 ts HI5.out.row HI5.out.safe HSO.out.secs HSO.out.len (by omega) HI5.out.wait.rd HIS.out HSO.out.good (by omega) HT5.out (by omega) HOK.out.2.2 HGS.out).mono ?_;rintro e w6 ⟨rfl,pa,na,ca,hr6,h61,h62,h63,h64,ht6⟩;have HI6:=ι (HI5.out.syn x ts hr6 h61 h62 h63 h64 ht6);clear hr6 h61 h62 h63 h64 ht6))
    exact⟨⟨j+1,by omega,by go_num,ι ⟨pa,na,ca,by rw[HSN.out];exact HI6.out⟩⟩,by simp[intOf];omega⟩
   ·go_wp2_with (first|(refine a6e rfl (.tmp 45) rfl b1 (o1+j * 38) rfl (3,x,ts) (.slice pt tq ct) HSX.out HRG.out ?_)|(refine a4n rfl _ _ rfl rfl wr.heap.size (3,x,ts) (0,w0,[]) (.slice pt tq ct) (.slice none 0 0) rfl rfl HSX.out rfl a0g (a2f wr) ?_;intro w5 hx5 hb5;have hb5r:=(a0a (Below.refl _ wr) _).trans hb5;have hI5:=HIN5.out.later hb5r;obtain⟨c0,_,rx5,c37⟩:=AtE.parts hx5 HSX.out;skip;have HI5:=ι hI5;have HX5:=ι rx5;have HT5:=ι (HTG.out.later hb5r);have hlt5:=(Array.getElem?_eq_some_iff.1 hx5).1;clear hx5 hb5 hb5r hI5 rx5))
    exact⟨⟨j+1,by omega,by go_num,ι ⟨pl,nl,cl,by rw[HSN.out];exact HI5.out.idle x ts⟩⟩,by simp[intOf];omega⟩
  ·obtain rfl:k=j:=by omega
   have ha1:¬((k:Int)<k):=by omega
   obtain⟨pl,nl,cl,hI⟩:=HI.out
   have HIE:=ι hI
   clear hI HI HP
   go_wp2_with (first|(refine d3n rfl (.tmp 8) rfl w3.heap.size rfl (.slice ps n cs) (.slice pl nl cl) HIE.out.row ?_)|(refine a8n rfl _ _ rfl rfl w.heap.size (.slice ps n cs) (.slice pl nl cl) (.slice none 0 0) (.slice none 0 0) rfl rfl rfl rfl HIE.out.res ?_;intro w7 hr7 ht7;have HR7:=ι hr7;have HT7:=ι ht7;clear hr7 ht7))
   refine a9d rfl w.heap.size (.slice ps n cs) (.slice pl nl cl) (.bool true) rfl rfl HR7.out rfl ?_
   have hK:Keeps (· ≠ w.heap.size) wr w7:=HT7.out.keeps fun k hk=>hk
   refine⟨HIE.out.below.trans (HT7.out.below HIE.out.below.size fun k hk=>Nat.le_of_eq hk.symm),ps,n,cs,pl,nl,cl,by rw[HT.out.1],?_,?_,?_,?_⟩
   all_goals rw[HT.out.2]
   ·exact(a0m HIE.out.safe (fun k' hk'=>by have:=(HIE.out.psl k' hk').1;omega) hK).rd
   ·exact(HST.out k (Nat.le_refl _)).len.symm
   ·exact(a0m HIE.out.wait (fun k' hk'=>by have:=(HIE.out.pll k' hk').1;omega) hK).rd
   ·exact HIE.out.nlen
theorem cat(w:World)(pb:Option Addr)(n cb:Nat)(base:List (List Int))(p:Option Addr)(m c:Nat)(es:List Ev)(vs:List Value)(k:Int)(h:AtIn w pb n cb base p m c es vs k) :
  Calls Tryz.prog 33 #[.slice pb n cb,.slice p m c,.int .i64 k] w (AtDone n m base es k w):=by
 by_cases hn:1≤n∧n≤65
 ·cases hp:(es.all (evOk n) && decide (0≤k∧k≤(m:Int))) with
  | false=>exact cat_bad w pb n cb base p m c es vs k h hn hp
  | true =>
   rw[Bool.and_eq_true,decide_eq_true_eq] at hp
   obtain⟨hq,hk0,hkm⟩:=hp
   obtain⟨k',rfl⟩:=Int.eq_ofNat_of_zero_le hk0
   exact d5c w pb n cb base p m c es vs k' h hn hq (by omega)
 ·exact cat_big w pb n cb base p m c es vs k h hn
end dsk
end Go.Proofs.YtiaapfijbidgnaaGreatDoor
