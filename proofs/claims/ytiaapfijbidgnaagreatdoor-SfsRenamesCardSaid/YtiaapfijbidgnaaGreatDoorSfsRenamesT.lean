/- What SfsRenames wants, part 20. -/
import Derived.Test.YtiaapfijbidgnaaGreatDoorSfsRenamesB
import Derived.Test.YtiaapfijbidgnaaGreatDoorSfsRenamesD
import Derived.Test.YtiaapfijbidgnaaGreatDoorSfsRenamesF
import Derived.Test.YtiaapfijbidgnaaGreatDoorSfsRenamesQ
import Derived.Test.YtiaapfijbidgnaaGreatDoorSfsRenamesS
import Derived.Laws.Cover1
set_option linter.unusedVariables false
set_option linter.unusedSimpArgs false
namespace Go.Proofs.YtiaapfijbidgnaaGreatDoor
namespace lk
set_option maxRecDepth 100000
open Go.ChangeShapes Go.WideShapes Go.ChangeAt Go.RowKit
open rows
open sec
open ly
open pa
def ltS(a b:ByteArray):Bool:=Op.bytesLess a.toList b.toList
theorem d3y(x:List UInt8):∀(y:List UInt8),Op.bytesLess x y=decide (x<y):=by
 induction x with
 | nil=>intro y;cases y<;>simp[Op.bytesLess]
 | cons a x ih =>
  intro y
  cases y with
  | nil=>simp[Op.bytesLess]
  | cons b y =>
   simp only[Op.bytesLess,ih y,List.cons_lt_cons_iff,Bool.decide_or,Bool.decide_and]
   rcases Decidable.em (a<b) with h1|h1<;>rcases Decidable.em (a=b) with h2|h2<;>simp[h1,h2]
theorem ltS_eq(a b:ByteArray):ltS a b=decide (a.toList<b.toList):=d3y _ _
theorem str_ext{a b:ByteArray}(h:a.toList=b.toList):a=b:=by
 have h2:a.data.toList=b.data.toList:=by rw[← ByteArray.toList_eq,← ByteArray.toList_eq];exact h
 cases a;cases b
 simpa using h2
def nmIn(ss:List (List Int))(d:Int)(k:Nat)(x:ByteArray):Prop:=∃j,j<k∧standB ss j=true∧(entAt ss (j:Int)).parent=d∧(entAt ss (j:Int)).name=x
def atB(ss:List (List Int))(d:Int)(j:Nat):Bool:=standB ss j && decide ((entAt ss (j:Int)).parent=d)
def IsList(ss:List (List Int))(d:Int)(L:List ByteArray):Prop:=L.Pairwise (fun a b=>ltS a b=true)∧∀x,x∈L↔nmIn ss d 24 x
theorem b4l:Elem 83 9 1 16 (.string ByteArray.empty):=⟨Tryz.underlying83,by kernel_rfl,by decide,by decide,by decide⟩
def strV(L:List ByteArray):List Value:=L.map .string
end lk
namespace fs
set_option maxRecDepth 100000
open Go.ChangeShapes Go.WideShapes Go.ChangeAt Go.RowKit
open rows
open sec
open ly
open pa
open lk
structure Spot where
 dir:Int
 name:ByteArray
 k:Int
 is:Bool
def spot0:Spot:=⟨0,ByteArray.empty,0,false⟩
theorem b3p{ss:List (List Int)}(hs:Secs ss):∀(ns:List (List Int)) (n:Int),0≤n→n≤255→0≤(lookG ss n ns).1∧(lookG ss n ns).1≤255
 | [],n,h0,h1=>⟨h0,h1⟩
 | x::r,n,h0,h1=>by
  rw[lookG]
  split
  ·split
   ·rename_i k _
    obtain⟨_,_,h2,h3⟩:=a8m hs (k:Int)
    exact b3p hs r _ h2 h3
   ·exact⟨Int.le_refl _,by decide⟩
  ·exact⟨Int.le_refl _,by decide⟩
theorem a9r{ss:List (List Int)}(hs:Secs ss)(s:List Int):0≤(lookV ss s).1∧(lookV ss s).1≤255:=by
 unfold lookV
 split
 ·exact⟨Int.le_refl _,by decide⟩
 ·exact b3p hs _ 0 (Int.le_refl _) (by decide)
theorem d4w(s:List Int):(parL s).length≤36:=by
 unfold parL
 split
 ·rename_i x xs h
  obtain⟨_,h2,h3,_⟩:=a1u h
  have hm:∀y∈(x::xs).dropLast,y.length≤8:=fun y hy=>(b0h (h2 y (List.dropLast_subset _ hy))).2
  have hl:(x::xs).dropLast.length≤3:=by rw[List.length_dropLast];omega
  unfold joinP
  split
  ·simp
  ·have:=b7c 8 hm
   have h4:(x::xs).dropLast.length * (8+1)≤3 * 9:=Nat.mul_le_mul_right _ hl
   omega
 ·simp
def placeV(ss:List (List Int))(s:ByteArray):Spot×Int :=
 if errP (bys s)≠0 then (spot0,errP (bys s))
 else if (lookV ss (bys (strOfNums (parL (bys s))))).2≠0 then (spot0,(lookV ss (bys (strOfNums (parL (bys s))))).2)
 else if (inoAt ss (lookV ss (bys (strOfNums (parL (bys s))))).1).kind≠2 then (spot0,6)
 else (⟨(lookV ss (bys (strOfNums (parL (bys s))))).1,strOfNums (lastL (bys s)),(((findO ss (lookV ss (bys (strOfNums (parL (bys s))))).1 (strOfNums (lastL (bys s)))).getD 0:Nat):Int),(findO ss (lookV ss (bys (strOfNums (parL (bys s))))).1 (strOfNums (lastL (bys s)))).isSome⟩,0)
theorem b5i{fn:Func}{q p r:Tmp}{R:Ending→World→Prop}{a:Act}{w:World}(h:fn.results = #[.tmp q,.cell p 119,.tmp r])(g:Nat)(x:Ino)(u v:Value)(hu:a.tmps.getD q undef=u)(hp:a.tmps.getD p undef = .pointer (some ⟨g,0,none⟩))(hv:a.tmps.getD r undef=v)(hx:x.b.length=4)(hg:AtI w g x)
  (hd:a.defers=[]) (hR:R (.returned (.tuple #[u,aggI x,v])) w):bodyPost Tryz.prog fn R .ret a w:=by
 refine bodyPost_ret (v := .tuple #[u,aggI x,v]) ?_ hd hR
 have hp':a.tmps[p]?.getD undef = .pointer (some ⟨g,0,none⟩):=by simpa using hp
 have hu':a.tmps[q]?.getD undef=u:=by simpa using hu
 have hv':a.tmps[r]?.getD undef=v:=by simpa using hv
 have hl:=run_loadVar_row (P:=Tryz.prog) w g _ 119 _ _ _ hg a8z rfl (by rw[a5l];simp[a3q hx])
 simp[results,h,hp',hu',hv',asAddr,hl]
theorem b8h{w:World}{ops:Array Oper}{o:Oper}{a:Act}{K:Act→World→Prop}{Q:Exit→Act→World→Prop}{F:Prop}(hw:Region.wanted o (yielded ops a.tmps)=true)(p y:Operand)(ho:o.op = .store 119 p y)
  (g:Nat) (hp:a.eval p = .pointer (some ⟨g,0,none⟩)) (x:Ino) (hy:a.eval y=aggI x) (hx:x.b.length=4) (old:Ino) (hold:old.b.length=4) (hg:AtI w g old)
  (h:∀w',AtI w' g x→dsk.Touch (fun k=>k=g) w w'→K (a.put o.dst undef) w'):if Region.wanted o (yielded ops a.tmps)=true then Oper.wp Tryz.prog o a w K Q else F:=by
 rw[if_pos hw]
 exact wp_store_row 119 p y ho g x.c.toArray hp hy 119 _ hg (by rw[a5l];simp[a3q hx]) (by simp[a3q hx,a3q hold]) (by rw[List.all_toArray];exact c2f x)
  (h _ (setRow_heap w g _ _ _ _ hg) (dsk.a3k w g _))
def fileV(ss:List (List Int))(s:ByteArray):Int×Ino×Int :=
 if (lookV ss (bys s)).2≠0 then (0,ino0,(lookV ss (bys s)).2)
 else if (inoAt ss (lookV ss (bys s)).1).kind≠1 then (0,ino0,6)
 else ((lookV ss (bys s)).1,inoAt ss (lookV ss (bys s)).1,0)
def fileT(x:Int×Ino×Int):Value := .tuple #[.int .i64 x.1,aggI x.2.1,.int .i64 x.2.2]
end fs
namespace fs
set_option maxRecDepth 100000
open Go.ChangeShapes Go.WideShapes Go.ChangeAt Go.RowKit
open rows
open sec
open ly
open pa
open lk
def byteAt(ss:List (List Int))(x:Ino)(i:Nat):Int:=(ss.getD (40+(x.b.getD (i / 32) 0).toNat) zero32).getD (i % 32) 0
def readL(ss:List (List Int))(x:Ino):List Int:=(List.range x.size.toNat).map (byteAt ss x)
def readV(ss:List (List Int))(s:ByteArray):List Int×Int:=if (fileV ss s).2.2≠0 then ([],(fileV ss s).2.2) else (readL ss (fileV ss s).2.1,0)
theorem a3t{ss:List (List Int)}(hs:Secs ss)(z:Int)(h:(inoAt ss z).kind=1):0≤(inoAt ss z).size∧(inoAt ss z).size≤128∧∀i:Nat,(i:Int)<(inoAt ss z).size→1≤(inoAt ss z).b.getD (i / 32) 0∧(inoAt ss z).b.getD (i / 32) 0≤24:=by
 have hk0:ino0.kind≠1:=by decide
 unfold inoAt at h ⊢
 split
 ·rename_i hin
  rw[if_pos hin] at h
  rw[inoOfV] at h ⊢
  split
  ·rename_i hb
   rw[if_pos hb] at h
   rw[inoOfB,Bool.and_eq_true] at hb
   have hr:=hb.1
   rw[a1r h,Bool.and_eq_true,Bool.and_eq_true,decide_eq_true_eq,decide_eq_true_eq] at hr
   refine⟨hr.1.1,hr.1.2,fun i hi => ?_⟩
   have hn:i / 32<need (inoOf (secAt ss (1+z))).size.toNat:=by unfold need;omega
   have h4:=a6c (z:=(inoOf (secAt ss (1+z))).size.toNat) (by omega)
   have hbk:=b1k hr.2 (i / 32) (by omega)
   rw[a4d hn,Bool.and_eq_true,Bool.and_eq_true,decide_eq_true_eq,decide_eq_true_eq] at hbk
   exact hbk.1
  ·rename_i hb
   rw[if_neg hb] at h
   exact absurd h hk0
 ·rename_i hin
  rw[if_neg hin] at h
  exact absurd h hk0
theorem file_ok{ss:List (List Int)}(hs:Secs ss)(s:ByteArray)(h:(fileV ss s).2.2=0):∃z,(fileV ss s).2.1=inoAt ss z∧(inoAt ss z).kind=1:=by
 unfold fileV at h ⊢
 split at h
 ·rename_i he;exact absurd h he
 ·rename_i he
  split at h
  ·simp at h
  ·rename_i hk
   rw[if_neg he,if_neg hk]
   exact⟨_,rfl,by simpa using hk⟩
theorem a4j{ss:List (List Int)}(hs:Secs ss)(s:ByteArray):(fileV ss s).2.1.b.length=4:=by
 unfold fileV
 split
 ·rfl
 ·split
  ·rfl
  ·exact a1m hs _
end fs
namespace fs
set_option maxRecDepth 100000
open Go.ChangeShapes Go.WideShapes Go.ChangeAt Go.RowKit
open rows
open sec
open dsk (St Wr a2t)
open ly
open lk
def nowL(st:St):List (List Int):=over st.safe st.wait st.wait.length
theorem a9h{ss:List (List Int)}{ws:List Wr}(hs:Secs ss)(hw:∀x∈ws,Sec x.s):∀i,i≤ws.length→Secs (over ss ws i)
 | 0,_=>hs
 | i+1,h=>by
  rw[a7x (show i<ws.length by omega),wr1]
  split
  ·exact a2t (a9h hs hw i (by omega)) (hw _ (List.getElem_mem _)) _
  ·exact a9h hs hw i (by omega)
theorem c3b(ss:List (List Int))(ws:List Wr)(hp:∀x∈ws,0≤x.pos∧x.pos<(ss.length:Int)):∀k,k≤ws.length→dsk.outOf (fun _=>true) (ws.take k) ss=over ss ws k
 | 0,_=>rfl
 | k+1,h=>by
  have hk:k<ws.length:=by omega
  have ih:=c3b ss ws hp k (by omega)
  have hx:=hp _ (List.getElem_mem hk)
  rw[List.take_succ_eq_append_getElem hk,a7x hk,wr1,if_pos (by rw[b0n ss ws k (by omega)];exact hx),← ih]
  exact dsk.b1n ⟨ss,ws.take k,0,[],[],0⟩ ws[k]
theorem b0f(st:St)(hp:∀x∈st.wait,0≤x.pos∧x.pos<(st.safe.length:Int)):nowL st=dsk.seenOf st:=by
 have h:=c3b st.safe st.wait hp st.wait.length (Nat.le_refl _)
 rw[List.take_of_length_le (Nat.le_refl _)] at h
 exact h.symm
def mountV(st:St):Int:=if st.safe.length=0 then 1 else if mountsB (nowL st) then 0 else 8
theorem now_len(st:St):(nowL st).length=st.safe.length:=b0n _ _ _ (Nat.le_refl _)
theorem d3i{st:St}(hs:Secs st.safe)(hws:∀x∈st.wait,Sec x.s):Secs (nowL st):=a9h hs hws _ (Nat.le_refl _)
end fs
namespace fs
set_option maxRecDepth 100000
open Go.ChangeShapes Go.WideShapes Go.ChangeAt Go.RowKit
open rows
open sec
open dsk (St Wr writeR)
open ly
open lk
theorem a9j{k:Nat}{st:St}(h:st.good k)(i:Int)(s:List Int)(kd id:Int)(hs:Sec s):(writeR st i s kd id).2.good (k+1):=by
 unfold writeR
 split
 ·rename_i hin
  split
  ·exact⟨h.ss,h.n1,h.ws,h.es,by have:=h.wn;show st.wait.length≤k+1;omega,by have:=h.ln;show st.log.length≤k+1;omega,h.bn,⟨h.ep.1,by have:=h.ep.2;show st.ep≤((k+1:Nat):Int);omega⟩,⟨by have:=h.asked.1;show 0≤st.asked+1;omega,by have:=h.asked.2;show st.asked+1≤((k+1:Nat):Int);omega⟩⟩
  ·refine⟨h.ss,h.n1,fun y hy => ?_,fun e he => ?_,?_,?_,h.bn,⟨h.ep.1,by have:=h.ep.2;show st.ep≤((k+1:Nat):Int);omega⟩,⟨by have:=h.asked.1;show 0≤st.asked+1;omega,by have:=h.asked.2;show st.asked+1≤((k+1:Nat):Int);omega⟩⟩
   ·rcases List.mem_append.1 hy with hy|hy
    ·exact h.ws y hy
    ·rw[List.mem_singleton.1 hy];exact⟨hs,hin⟩
   ·rcases List.mem_append.1 he with he|he
    ·exact h.es e he
    ·rw[List.mem_singleton.1 he];exact⟨hs,Nat.zero_le _⟩
   ·have:=h.wn;simp;omega
   ·have:=h.ln;simp;omega
 ·exact⟨h.ss,h.n1,h.ws,h.es,by have:=h.wn;show st.wait.length≤k+1;omega,by have:=h.ln;show st.log.length≤k+1;omega,h.bn,⟨h.ep.1,by have:=h.ep.2;show st.ep≤((k+1:Nat):Int);omega⟩,⟨by have:=h.asked.1;show 0≤st.asked+1;omega,by have:=h.asked.2;show st.asked+1≤((k+1:Nat):Int);omega⟩⟩
theorem b6n:(Tryz.prog.info? 97).map (·.size)=some 2:=by kernel_rfl
theorem c3g{ops:Array Oper}{S:World→Prop}{op:Oper}{a:Act}(hw:Region.wanted op (yielded ops a.tmps)=true)(x:Operand)(ho:op.op = .load 97 x)
  (b o:Nat) (hx:a.eval x = .pointer (some ⟨b,o,none⟩)) (k id:Int) (hS:∀w,S w→w.cell? ⟨b,o,none⟩=some (.int .i64 k)∧w.cell? ⟨b,o+1,none⟩=some (.int .i64 id)):YieldsIf Tryz.prog ops S op (.agg #[.int .i64 k,.int .i64 id]) a :=
 yieldsIf_load_mid hw _ x ho b o hx [.int .i64 k,.int .i64 id] _ (fun w h j u hj=>by
  obtain⟨h1,h2⟩:=hS w h
  match j,hj with
  | 0,hj=>cases hj;exact h1
  | 1,hj=>cases hj;exact h2
  | j+2,hj=>simp at hj) Tryz.underlying97 rfl (by rw[b6n];rfl)
def doR(st:St):List Wr→Int×St
 | []=>(0,st)
 | x::r=>if (writeR st x.pos x.s x.kind x.id).1≠0 then writeR st x.pos x.s x.kind x.id else doR (writeR st x.pos x.s x.kind x.id).2 r
theorem c2a{ws:List Wr}(hw:∀x∈ws,Sec x.s):∀{k:Nat} {st:St},st.good k→(doR st ws).2.good (k+ws.length):=by
 induction ws with
 | nil=>intro k st h;exact h
 | cons x r ih =>
  intro k st h
  have h1:=a9j h x.pos x.s x.kind x.id (hw x (List.mem_cons_self ..))
  rw[doR]
  split
  ·exact⟨h1.ss,h1.n1,h1.ws,h1.es,by have:=h1.wn;simp;omega,by have:=h1.ln;simp;omega,h1.bn,⟨h1.ep.1,by have:=h1.ep.2;simp;omega⟩,⟨h1.asked.1,by have:=h1.asked.2;simp;omega⟩⟩
  ·have h2:=ih (fun y hy=>hw y (List.mem_cons_of_mem _ hy)) h1
   rw[List.length_cons,show k+(r.length+1)=k+1+r.length by omega]
   exact h2
end fs
namespace fs
set_option maxRecDepth 100000
open Go.ChangeShapes Go.WideShapes Go.ChangeAt Go.RowKit
open rows
open sec
open dsk (St Wr Wr.ok barrier)
open ly
open pa
open lk
open al
def wIno(n:Int)(x:Ino):Wr:=⟨1+n,inoV x,2,n,0⟩
def wEnt(k:Int)(x:Ent)(f:Int):Wr:=⟨17+k,entV x,3,f,0⟩
theorem c1f{n:Int}{x:Ino}(hn:0≤n∧n≤200)(hx:x.b.length=4):(wIno n x).ok:=⟨a2s hx,a0f (by show 0≤1+n∧1+n<256;omega),a0f (by show (0:Int)≤2∧(2:Int)<256;omega),a0f (by show 0≤n∧n<256;omega),a0f (by show (0:Int)≤0∧(0:Int)<256;omega)⟩
theorem b1m{k f:Int}{x:Ent}(hk:0≤k∧k≤200)(hf:0≤f∧f≤255):(wEnt k x f).ok:=⟨a0x x,a0f (by show 0≤17+k∧17+k<256;omega),a0f (by show (0:Int)≤3∧(3:Int)<256;omega),a0f (by show 0≤f∧f<256;omega),a0f (by show (0:Int)≤0∧(0:Int)<256;omega)⟩
def makeV(st:St)(s:ByteArray)(kind:Int):Int×St :=
 if (placeV (nowL st) s).2≠0 then ((placeV (nowL st) s).2,st)
 else if (placeV (nowL st) s).1.is then (5,st)
 else match frI (nowL st),frE (nowL st) with
  | some n,some k=>doR st [wIno (n:Int) ⟨kind,0,[0,0,0,0]⟩,wEnt (k:Int) ⟨true,(placeV (nowL st) s).1.dir,(placeV (nowL st) s).1.name,(n:Int)⟩ (placeV (nowL st) s).1.dir]
  | _,_=>(2,st)
def cutB(b:List Int)(j:Nat):List Int:=b.take j++List.replicate (4-j) 0
def truncV(st:St)(s:ByteArray)(z:Int):Int×St :=
 if (fileV (nowL st) s).2.2≠0 then ((fileV (nowL st) s).2.2,st)
 else if z<0∨(fileV (nowL st) s).2.1.size<z then (1,st)
 else if z=(fileV (nowL st) s).2.1.size then (0,st)
 else doR st [wIno (fileV (nowL st) s).1 ⟨(fileV (nowL st) s).2.1.kind,z,cutB (fileV (nowL st) s).2.1.b (need z.toNat)⟩]
def fullB(ss:List (List Int))(d:Int):Bool:=(List.range 24).any (atB ss d)
def unlinkV(st:St)(s:ByteArray):Int×St :=
 if (placeV (nowL st) s).2≠0 then ((placeV (nowL st) s).2,st)
 else if (placeV (nowL st) s).1.is=false then (4,st)
 else if (inoAt (nowL st) (entAt (nowL st) (placeV (nowL st) s).1.k).target).kind=2∧fullB (nowL st) (entAt (nowL st) (placeV (nowL st) s).1.k).target=true then (7,st)
 else doR st [wEnt (placeV (nowL st) s).1.k ent0 (placeV (nowL st) s).1.dir]
def deeperB(s t:ByteArray):Bool:=underB (bys t) (bys s) || decide ((nms (bys s)).length<(nms (bys t)).length)
def moveR(st:St)(x y:Wr):Int×St :=
 if (doR st [x]).1≠0 then doR st [x]
 else if (barrier (doR st [x]).2).1≠0 then barrier (doR st [x]).2
 else doR (barrier (doR st [x]).2).2 [y]
def renameV(st:St)(s t:ByteArray):Int×St :=
 let L:=nowL st
 let a:=(placeV L s).1
 let b:=(placeV L t).1
 let n:=(entAt L a.k).target
 let dir:=decide ((inoAt L n).kind=2)
 let x:Ent:=⟨true,b.dir,b.name,n⟩
 if errP (bys s)≠0 then (errP (bys s),st)
 else if errP (bys t)≠0 then (errP (bys t),st)
 else if (placeV L s).2≠0 then ((placeV L s).2,st)
 else if a.is=false then (4,st)
 else if (placeV L t).2≠0 then ((placeV L t).2,st)
 else if s=t∨(b.is=true∧b.k=a.k) then (0,st)
 else if dir=true∧deeperB s t=true then (1,st)
 else if b.is=true then
  if dir=true∨(inoAt L (entAt L b.k).target).kind=2 then (5,st)
  else moveR st (wEnt b.k x b.dir) (wEnt a.k ent0 a.dir)
 else if a.dir=b.dir then doR st [wEnt a.k x b.dir]
 else match frE L with
  | none=>(2,st)
  | some k=>moveR st (wEnt (k:Int) x b.dir) (wEnt a.k ent0 a.dir)
def grownI(x:Ino)(off m:Nat)(f:List Int):Ino:=⟨x.kind,max x.size (off+m:Nat),x.b.take (need x.size.toNat)++f++x.b.drop (need x.size.toNat+f.length)⟩
def hitB(off m i:Nat):Bool:=decide (0<m∧off<32 * i+32∧32 * i<off+m)
def putL(old:List Int)(off:Nat)(b:List Int)(i:Nat):List Int:=(List.range 32).map fun j=>if off≤32 * i+j∧32 * i+j<off+b.length then b.getD (32 * i+j-off) 0 else old.getD j 0
def blksW(L:List (List Int))(n:Int)(y:Ino)(had off:Nat)(b:List Int)(k:Nat):List Wr :=
 ((List.range k).filter (hitB off b.length)).map fun i=>⟨40+y.b.getD i 0,putL (if i<had then L.getD (40+y.b.getD i 0).toNat zero32 else zero32) off b i,1,n,0⟩
def writeFV(st:St)(s:ByteArray)(off:Int)(b:List Int):Int×St :=
 let L:=nowL st
 let x:=(fileV L s).2.1
 let n:=(fileV L s).1
 if (fileV L s).2.2≠0 then ((fileV L s).2.2,st)
 else if off<0∨x.size<off then (1,st)
 else if 128-off<(b.length:Int) then (2,st)
 else
  let w:=((need (max x.size (off+b.length)).toNat:Nat):Int)-(need x.size.toNat:Nat)
  if blkB L w=false then (2,st)
  else
   let y:=grownI x off.toNat b.length (blkL L w)
   doR st (blksW L n y (need x.size.toNat) off.toNat b 4++if y=x then [] else [wIno n y])
def appendV(st:St)(s:ByteArray)(b:List Int):Int×St :=
 if (fileV (nowL st) s).2.2≠0 then ((fileV (nowL st) s).2.2,st) else writeFV st s (fileV (nowL st) s).2.1.size b
end fs
namespace fs
set_option maxRecDepth 100000
open Go.ChangeShapes Go.WideShapes Go.ChangeAt Go.RowKit
open rows
open sec
open dsk (Wr Wr.c Wr.c_len w0 a1a a7c b3r b6u b2r)
open ly
open pa
open lk
theorem c9o(p k i:Int)(s:List Int)(h:Sec s):Tryz.prog.built 99 [(0,.int .i64 p),(1,.agg (u8s s).toArray),(2,.agg #[.int .i64 k,.int .i64 i])]=some (Wr.c ⟨p,s,k,i,0⟩).toArray:=by
 have hl:(u8s s).length=32:=by simp[u8s,h.1]
 have hz:(u8s zero32).length=32:=by simp[u8s,zero32]
 rw[a7c _ _ _ _ b3r b6u b2r]
 rw[a1a _ _ 0 0 1 _ [.int .i64 p] _ rfl rfl rfl (by rw[Wr.c_len a0g];omega)]
 have e0:(w0.c).take 0++[Value.int .i64 p]++(w0.c).drop (0+1) = .int .i64 p::(u8s zero32++[.int .i64 0,.int .i64 0,.int .i64 0]):=rfl
 rw[e0,a1a _ _ 1 1 32 _ (u8s s) _ rfl rfl hl (by simp[hz])]
 have e1:(Value.int .i64 p::(u8s zero32++[Value.int .i64 0,.int .i64 0,.int .i64 0])).take 1++u8s s++(Value.int .i64 p::(u8s zero32++[Value.int .i64 0,.int .i64 0,.int .i64 0])).drop (1+32) = .int .i64 p::(u8s s++[.int .i64 0,.int .i64 0,.int .i64 0]):=by
  rw[show 1+32=32+1 by omega,List.drop_succ_cons,List.drop_left' hz];rfl
 rw[e1,a1a _ _ 2 33 2 _ [.int .i64 k,.int .i64 i] _ rfl rfl rfl (by simp[hl])]
 have e2:(Value.int .i64 p::(u8s s++[Value.int .i64 0,.int .i64 0,.int .i64 0])).take 33++[Value.int .i64 k,.int .i64 i]++(Value.int .i64 p::(u8s s++[Value.int .i64 0,.int .i64 0,.int .i64 0])).drop (33+2) = .int .i64 p::(u8s s++[.int .i64 k,.int .i64 i,.int .i64 0]):=by
  rw[List.take_succ_cons,List.take_left' hl,show 33+2=(32+2)+1 by omega,List.drop_succ_cons,← List.drop_drop,List.drop_left' hl]
  simp
 rw[e2]
 rfl
end fs
namespace fs
set_option maxRecDepth 100000
open Go.ChangeShapes Go.WideShapes Go.ChangeAt Go.RowKit
open rows
open sec
open ly
open pa
open lk
open al
theorem a9g{ss:List (List Int)}(hs:Secs ss)(s:ByteArray):0≤(placeV ss s).1.dir∧(placeV ss s).1.dir≤255∧0≤(placeV ss s).1.k∧(placeV ss s).1.k<24:=by
 have h0:0≤spot0.dir∧spot0.dir≤255∧0≤spot0.k∧spot0.k<24:=by decide
 unfold placeV
 split
 ·exact h0
 ·split
  ·exact h0
  ·split
   ·exact h0
   ·have h1:=a9r hs (bys (strOfNums (parL (bys s))))
    refine⟨h1.1,h1.2,by simp,?_⟩
    cases hf:findO ss (lookV ss (bys (strOfNums (parL (bys s))))).1 (strOfNums (lastL (bys s))) with
    | none=>simp
    | some k=>have:=b4z hf;simp;omega
theorem c9x{ss:List (List Int)}{d:Int}{l:List ByteArray}(h:IsList ss d l):decide (0<(l.length:Int))=fullB ss d:=by
 rw[fullB,Bool.eq_iff_iff,decide_eq_true_eq,List.any_eq_true]
 constructor
 ·intro hl
  cases l with
  | nil=>simp at hl
  | cons x r =>
   obtain⟨j,h1,h2,h3,_⟩:=(h.2 x).1 (List.mem_cons_self ..)
   exact⟨j,List.mem_range.2 h1,by rw[atB,h2,h3];simp⟩
 ·rintro⟨j,h1,h2⟩
  rw[atB,Bool.and_eq_true,decide_eq_true_eq] at h2
  have:=(h.2 _).2 ⟨j,List.mem_range.1 h1,h2.1,h2.2,rfl⟩
  have:=List.length_pos_of_mem this
  omega
end fs
namespace fs
set_option maxRecDepth 100000
open Go.ChangeShapes Go.WideShapes Go.ChangeAt Go.RowKit
open rows
open sec
open dsk (St Wr.ok)
open ly
open pa
open lk
open al
theorem b8i{st:St}{k:Nat}(hg:st.good k):Secs (nowL st):=d3i hg.ss fun x hx=>(hg.ws x hx).1
theorem d2e(l:List Int):(lastL l).length≤8∧∀x∈lastL l,0≤x∧x<256:=by
 unfold lastL
 split
 ·rename_i n ns h
  have hm:(n::ns).getLastD []∈(n::ns):=by
   rw[List.getLastD_eq_getLast?,List.getLast?_eq_some_getLast (by simp),Option.getD_some]
   exact List.getLast_mem _
  have hn:=(a1u h).2.1 _ hm
  exact⟨(b0h hn).2,a2n hn⟩
 ·simp
theorem b3o(ss:List (List Int))(s:ByteArray):(placeV ss s).1.name.size≤8:=by
 have h0:spot0.name.size≤8:=by decide
 unfold placeV
 split
 ·exact h0
 ·split
  ·exact h0
  ·split
   ·exact h0
   ·obtain⟨h1,h2⟩:=d2e (bys s)
    show (strOfNums (lastL (bys s))).size≤8
    rw[← a0z,a0o h2]
    exact h1
theorem c3z{kind:Int}(h:0≤kind∧kind<256):(⟨kind,0,[0,0,0,0]⟩:Ino).ok:=⟨rfl,a0f h,a0f (by show (0:Int)≤0∧(0:Int)<256;omega),fun z hz=>by
 have:z=0:=by simpa using hz
 subst this
 exact a0f (by omega)⟩
end fs
namespace fs
set_option maxRecDepth 100000
open Go.ChangeShapes Go.WideShapes Go.ChangeAt Go.RowKit
open rows
open sec
open dsk (wf64 Wr.ok a0d)
open ly
open pa
open lk
open al
theorem c3p{ss:List (List Int)}(hs:Secs ss)(i:Int):(inoAt ss i).ok:=by
 unfold inoAt
 split
 ·exact c8h (a1b hs _)
 ·exact c9f
theorem b1y{ss:List (List Int)}(hs:Secs ss)(s:ByteArray)(h:(fileV ss s).2.2=0):(fileV ss s).2.1=inoAt ss (fileV ss s).1∧(inoAt ss (fileV ss s).1).kind=1∧0≤(fileV ss s).1∧(fileV ss s).1<16:=by
 unfold fileV at h ⊢
 split at h
 ·rename_i h1;exact absurd h h1
 ·rename_i h1
  rw[if_neg h1]
  split at h
  ·exact absurd h (by decide)
  ·rename_i h2
   rw[if_neg h2]
   have hk:(inoAt ss (lookV ss (bys s)).1).kind=1:=Decidable.not_not.1 h2
   refine⟨rfl,hk,?_⟩
   show 0≤(lookV ss (bys s)).1∧(lookV ss (bys s)).1<16
   unfold inoAt at hk
   split at hk
   ·assumption
   ·exact absurd hk (by decide)
theorem AtI.setS{w:World}{g:Nat}{x:Ino}(h:AtI w g x)(z:Int):AtI (w.setCell ⟨g,1,none⟩ (.int .i64 z)) g {x with size:=z}:=a0d h _
theorem cut_ok{x:Ino}(hx:x.ok){z:Int}(hz:wf64 z)(j:Nat)(hj:j≤4):(⟨x.kind,z,cutB x.b j⟩:Ino).ok:=⟨by simp[cutB,hx.four];omega,hx.kind,hz,fun y hy=>by
 rcases List.mem_append.1 hy with hy|hy
 ·exact hx.b y (List.mem_of_mem_take hy)
 ·rw[(List.mem_replicate.1 hy).2];exact a0f (by omega)⟩
theorem wf64_of(m:Nat)(h:m≤1000):wf64 (m:Int):=WalkArith.wf_i64 (by omega)
end fs
namespace fs
set_option maxRecDepth 100000
open sec
open ly
open lk
theorem a5h{ss:List (List Int)}{p:Nat}(hp:p<ss.length)(s:List Int)(i:Int):secAt (ss.set p s) i=if i=(p:Int) then s else secAt ss i:=by
 by_cases e:i=(p:Int)
 ·subst e
  rw[if_pos rfl,secAt,if_pos ⟨by omega,by rw[List.length_set];omega⟩]
  simp[List.getD,hp]
 ·rw[if_neg e,secAt,secAt,List.length_set]
  split
  ·rename_i h
   have:p≠i.toNat:=by omega
   simp[List.getD,List.getElem?_set,this]
  ·rfl
theorem a2a{ss:List (List Int)}(hs:Secs ss){s:List Int}(h:Sec s)(p:Nat):Secs (ss.set p s):=fun x hx=>by
 rcases List.mem_or_eq_of_mem_set hx with hx|rfl
 ·exact hs x hx
 ·exact h
def setE(ss:List (List Int))(k:Nat)(x:Ent):List (List Int):=ss.set (17+k) (entV x)
def setI(ss:List (List Int))(n:Nat)(x:Ino):List (List Int):=ss.set (1+n) (inoV x)
def setB(ss:List (List Int))(b:Nat)(s:List Int):List (List Int):=ss.set (40+b) s
theorem a1x(ss:List (List Int))(k:Nat)(x:Ent):(setE ss k x).length=ss.length:=List.length_set ..
theorem a8b(ss:List (List Int))(n:Nat)(x:Ino):(setI ss n x).length=ss.length:=List.length_set ..
theorem b8a{x:Ent}(h:rightE x=true):entOfV (entV x)=x:=by
 rw[entV,if_pos h,entOfV,if_pos (c1h h),b9i h]
theorem a3d{ss:List (List Int)}(hl:ss.length=65){k:Nat}(hk:k<24){x:Ent}(hx:rightE x=true)(j:Int):entAt (setE ss k x) j=if j=(k:Int) then x else entAt ss j:=by
 unfold entAt setE
 rw[a5h (by omega)]
 by_cases e:j=(k:Int)
 ·subst e
  rw[if_pos ⟨by omega,by omega⟩,if_pos (by omega),if_pos rfl,b8a hx]
 ·rw[if_neg e]
  split
  ·rw[if_neg (by omega)]
  ·rfl
theorem a1e{ss:List (List Int)}(hl:ss.length=65){k:Nat}(hk:k<24)(x:Ent)(j:Int):inoAt (setE ss k x) j=inoAt ss j:=by
 unfold inoAt setE
 split
 ·rw[a5h (by omega),if_neg (by omega)]
 ·rfl
theorem b6k{ss:List (List Int)}(hl:ss.length=65){n:Nat}(hn:n<16)(x:Ino)(j:Int):entAt (setI ss n x) j=entAt ss j:=by
 unfold entAt setI
 split
 ·rw[a5h (by omega),if_neg (by omega)]
 ·rfl
theorem d4b{ss:List (List Int)}(hl:ss.length=65){b:Nat}(hb:1≤b∧b≤24)(s:List Int)(j:Int):entAt (setB ss b s) j=entAt ss j:=by
 unfold entAt setB
 split
 ·rw[a5h (by omega),if_neg (by omega)]
 ·rfl
theorem d3v{ss:List (List Int)}(hl:ss.length=65){b:Nat}(hb:1≤b∧b≤24)(s:List Int)(j:Int):inoAt (setB ss b s) j=inoAt ss j:=by
 unfold inoAt setB
 split
 ·rw[a5h (by omega),if_neg (by omega)]
 ·rfl
theorem b7b{x:Ino}(h4:x.b.length=4)(h:rightI x=true):inoOfV (inoV x)=x:=by
 rw[inoV,if_pos h,inoOfV,if_pos (c0q h4 h),b3w h4]
theorem b6i{ss:List (List Int)}(hl:ss.length=65){n:Nat}(hn:n<16){x:Ino}(h4:x.b.length=4)(hx:rightI x=true)(j:Int):inoAt (setI ss n x) j=if j=(n:Int) then x else inoAt ss j:=by
 unfold inoAt setI
 rw[a5h (by omega)]
 by_cases e:j=(n:Int)
 ·subst e
  rw[if_pos ⟨by omega,by omega⟩,if_pos (by omega),if_pos rfl,b7b h4 hx]
 ·rw[if_neg e]
  split
  ·rw[if_neg (by omega)]
  ·rfl
end fs
namespace fs
set_option maxRecDepth 100000
open sec
open ly
open lk
open pa
theorem d1n(ss:List (List Int))(k:Int):rightE (entAt ss k)=true:=by
 unfold entAt
 split
 ·unfold entOfV
  split
  ·rename_i h
   rw[entOfB,Bool.and_eq_true] at h
   exact h.1
  ·exact a6v
 ·exact a6v
theorem a1j{ss:List (List Int)}{k:Int}(h:(entAt ss k).used=true):0≤(entAt ss k).parent∧(entAt ss k).parent<16∧1≤(entAt ss k).target∧(entAt ss k).target<16∧nameB (entAt ss k).name=true:=by
 have hr:=d1n ss k
 rw[a1z h] at hr
 simp only[Bool.and_eq_true,decide_eq_true_eq] at hr
 exact⟨hr.1.1.1.1,hr.1.1.1.2,hr.1.1.2,hr.1.2,hr.2⟩
structure Fit (ss:List (List Int)):Prop where
 len:ss.length=65
 secs:Secs ss
 root:(inoAt ss 0).kind=2
 tgt:∀j k:Nat,j<24→k<24→(entAt ss (j:Int)).used=true→(entAt ss (k:Int)).used=true→(entAt ss (j:Int)).target=(entAt ss (k:Int)).target→j=k
 live:∀k:Nat,k<24→(entAt ss (k:Int)).used=true→(inoAt ss (entAt ss (k:Int)).target).kind≠0
 uniq:∀j k:Nat,j<24→k<24→(entAt ss (j:Int)).used=true→(entAt ss (k:Int)).used=true→(entAt ss (j:Int)).parent=(entAt ss (k:Int)).parent→(entAt ss (j:Int)).name=(entAt ss (k:Int)).name→j=k
theorem c1r{ss:List (List Int)}(F:Fit ss){d:Int}{nm:ByteArray}{k:Nat}(hk:k<24):inB ss d nm k=true↔(entAt ss (k:Int)).used=true∧(entAt ss (k:Int)).parent=d∧(entAt ss (k:Int)).name=nm:=by
 rw[inB,standB]
 simp only[Bool.and_eq_true,decide_eq_true_eq,Bool.not_eq_true',decide_eq_false_iff_not]
 constructor
 ·rintro⟨⟨⟨h1,_⟩,h2⟩,h3⟩
  exact⟨h1,h2,h3⟩
 ·rintro⟨h1,h2,h3⟩
  exact⟨⟨⟨h1,F.live k hk h1⟩,h2⟩,h3⟩
theorem a3r{ss:List (List Int)}(F:Fit ss){d:Int}{nm:ByteArray}{k:Nat}:findO ss d nm=some k↔k<24∧(entAt ss (k:Int)).used=true∧(entAt ss (k:Int)).parent=d∧(entAt ss (k:Int)).name=nm:=by
 constructor
 ·intro h
  obtain⟨h1,h2,_⟩:=a1n h
  exact⟨h1,(c1r F h1).1 h2⟩
 ·rintro⟨h1,h2,h3,h4⟩
  cases hf:findO ss d nm with
  | none =>
   have:=upto_none.1 hf k h1
   rw[(c1r F h1).2 ⟨h2,h3,h4⟩] at this
   cases this
  | some j =>
   obtain⟨g1,g2,_⟩:=a1n hf
   obtain⟨g3,g4,g5⟩:=(c1r F g1).1 g2
   rw[F.uniq j k g1 h1 g3 h2 (by rw[g4,h3]) (by rw[g5,h4])]
theorem a6m{ss:List (List Int)}(F:Fit ss){d:Int}{nm:ByteArray}:findO ss d nm=none↔∀k:Nat,k<24→(entAt ss (k:Int)).used=true→(entAt ss (k:Int)).parent=d→(entAt ss (k:Int)).name≠nm:=by
 constructor
 ·intro h k hk h1 h2 h3
  rw[(a3r F).2 ⟨hk,h1,h2,h3⟩] at h
  cases h
 ·intro h
  cases hf:findO ss d nm with
  | none=>rfl
  | some j =>
   obtain⟨g1,g2,g3,g4⟩:=(a3r F).1 hf
   exact absurd g4 (h j g1 g2 g3)
theorem a2i{ss:List (List Int)}:∀(p q:List (List Int)) (n:Int),lookG ss n (p++q)=if (lookG ss n p).2=0 then lookG ss (lookG ss n p).1 q else lookG ss n p
 | [],q,n=>by rw[List.nil_append,lookG,if_pos rfl]
 | x::r,q,n=>by
  rw[List.cons_append,lookG,lookG]
  split
  ·split
   ·exact a2i r q _
   ·rw[if_neg (by decide)]
  ·rw[if_neg (by decide)]
theorem a2p{ss:List (List Int)}(F:Fit ss){p:List (List Int)}{x:List Int}{m:Int}(h:lookG ss 0 (p++[x])=(m,0)) :
  ∃k:Nat,k<24∧(entAt ss (k:Int)).used=true∧lookG ss 0 p=((entAt ss (k:Int)).parent,0)∧(inoAt ss (entAt ss (k:Int)).parent).kind=2∧(entAt ss (k:Int)).name=strOfNums x∧(entAt ss (k:Int)).target=m:=by
 rw[a2i] at h
 by_cases h0:(lookG ss 0 p).2=0
 ·rw[if_pos h0,lookG] at h
  by_cases hk:(inoAt ss (lookG ss 0 p).1).kind=2
  ·rw[if_pos hk] at h
   cases hf:findO ss (lookG ss 0 p).1 (strOfNums x) with
   | none=>rw[hf] at h;exact absurd (show (4:Int)=0 from congrArg Prod.snd h) (by decide)
   | some k =>
    rw[hf] at h
    obtain⟨h1,h2,h3,h4⟩:=(a3r F).1 hf
    have ht:(entAt ss (k:Int)).target=m:=congrArg Prod.fst h
    exact⟨k,h1,h2,Prod.ext h3.symm h0,by rw[h3];exact hk,h4,ht⟩
  ·rw[if_neg hk] at h
   exact absurd (show (6:Int)=0 from congrArg Prod.snd h) (by decide)
 ·rw[if_neg h0] at h
  rw[h] at h0
  exact absurd rfl h0
theorem a4e{ss:List (List Int)}(F:Fit ss){p:List (List Int)}{x:List Int}{k:Nat}(hk:k<24)(hu:(entAt ss (k:Int)).used=true)(hp:lookG ss 0 p=((entAt ss (k:Int)).parent,0))(hd:(inoAt ss (entAt ss (k:Int)).parent).kind=2)(hn:(entAt ss (k:Int)).name=strOfNums x):lookG ss 0 (p++[x])=((entAt ss (k:Int)).target,0):=by
 rw[a2i,hp,if_pos rfl,a2x hd ((a3r F).2 ⟨hk,hu,rfl,hn⟩)]
 rfl
theorem nm_inj{x y:List Int}(hx:isNm x=true)(hy:isNm y=true)(h:strOfNums x=strOfNums y):x=y:=by
 have:=congrArg bys h
 rwa [a0o (a2n hx),a0o (a2n hy)] at this
theorem a0r{ss:List (List Int)}(F:Fit ss):∀(l:Nat) (p q:List (List Int)) (m:Int),p.length≤l→(∀x∈p,isNm x=true)→(∀x∈q,isNm x=true)→lookG ss 0 p=(m,0)→lookG ss 0 q=(m,0)→p=q:=by
 intro l
 induction l with
 | zero =>
  intro p q m hl hp hq h1 h2
  obtain rfl:p=[]:=List.eq_nil_of_length_eq_zero (by omega)
  obtain rfl:(0:Int)=m:=congrArg Prod.fst h1
  rcases List.eq_nil_or_concat q with rfl|⟨q',y,rfl⟩
  ·rfl
  ·obtain⟨k,hk,hu,_,_,_,ht⟩:=a2p F (by simpa using h2)
   have:=(a1j hu).2.2.1
   omega
 | succ l ih =>
  intro p q m hl hp hq h1 h2
  rcases List.eq_nil_or_concat p with rfl|⟨p',x,rfl⟩
  ·exact ih [] q m (by simp) hp hq h1 h2
  ·obtain⟨k,hk,hu,hpp,_,hn,ht⟩:=a2p F (by simpa using h1)
   rcases List.eq_nil_or_concat q with rfl|⟨q',y,rfl⟩
   ·have h0:(0:Int)=m:=congrArg Prod.fst h2
    have:=(a1j hu).2.2.1
    omega
   ·obtain⟨j,hj,hv,hqq,_,hm,hs⟩:=a2p F (by simpa using h2)
    obtain rfl:k=j:=F.tgt k j hk hj hu hv (by rw[ht,hs])
    have hxy:x=y:=nm_inj (hp x (by simp)) (hq y (by simp)) (by rw[← hn,← hm])
    subst hxy
    have:=ih p' q' _ (by simp at hl;omega) (fun z hz=>hp z (by simp[hz])) (fun z hz=>hq z (by simp[hz])) hpp hqq
    rw[this]
end fs
namespace fs
set_option maxRecDepth 100000
open sec
open ly
open lk
open pa
structure Nd where
 path:ByteArray
 dir:Bool
 data:ByteArray
def nd0:Nd:=⟨ByteArray.empty,false,ByteArray.empty⟩
def ndRoot:Nd:=⟨{ data := #[47] },true,ByteArray.empty⟩
def tAt(t:List Nd)(s:ByteArray):Option Nat:=upto (fun i=>decide ((t.getD i nd0).path=s)) t.length
def tWay(t:List Nd):Nd→List (List Int)→List (List Int)→Nd×Int
 | now,_,[]=>(now,0)
 | now,gone,x::r=>if now.dir=false then (nd0,6) else match tAt t (strOfNums (joinP (gone++[x]))) with
  | none=>(nd0,4)
  | some k=>tWay t (t.getD k nd0) (gone++[x]) r
def tLook(t:List Nd)(s:ByteArray):Nd×Int:=match splitL (bys s) with
 | none=>(nd0,9)
 | some ns=>tWay t ndRoot [] ns
structure Same (ss:List (List Int)) (t:List Nd) (i k:Nat):Prop where
 used:(entAt ss (k:Int)).used=true
 way:∃p,p≠[]∧p.length≤4∧(∀x∈p,isNm x=true)∧(t.getD i nd0).path=strOfNums (joinP p)∧lookG ss 0 p=((entAt ss (k:Int)).target,0)
 dir:(t.getD i nd0).dir=decide ((inoAt ss (entAt ss (k:Int)).target).kind=2)
 data:(inoAt ss (entAt ss (k:Int)).target).kind=1→bys (t.getD i nd0).data=readL ss (inoAt ss (entAt ss (k:Int)).target)
structure Sim (ss:List (List Int)) (t:List Nd):Prop where
 fit:Fit ss
 all:∀k:Nat,k<24→(entAt ss (k:Int)).used=true→∃i,i<t.length∧Same ss t i k
 back:∀i,i<t.length→∃k,k<24∧Same ss t i k
 once:∀i j,i<t.length→j<t.length→(t.getD i nd0).path=(t.getD j nd0).path→i=j
theorem a1h{p:List (List Int)}(h:∀x∈p,isNm x=true):∀z∈joinP p,0≤z∧z<256:=by
 unfold joinP
 split
 ·intro z hz
  have:z=47:=by simpa using hz
  omega
 ·intro z hz
  unfold joinL at hz
  obtain⟨l,hl,hz⟩:=List.mem_flatten.1 hz
  obtain⟨x,hx,rfl⟩:=List.mem_map.1 hl
  rcases List.mem_cons.1 hz with rfl|hz
  ·omega
  ·exact a2n (h x hx) z hz
theorem a4k{p q:List (List Int)}(hp:∀x∈p,isNm x=true)(hq:∀x∈q,isNm x=true)(lp:p.length≤4)(lq:q.length≤4)(h:strOfNums (joinP p)=strOfNums (joinP q)):p=q:=by
 have e:=congrArg bys h
 rw[a0o (a1h hp),a0o (a1h hq)] at e
 have e2:=congrArg splitL e
 rw[a2m hp lp,a2m hq lq] at e2
 exact Option.some.inj e2
theorem b8s{ss:List (List Int)}{t:List Nd}(S:Sim ss t){p:List (List Int)}(h0:p≠[])(hl:p.length≤4)(hp:∀x∈p,isNm x=true){i:Nat} :
  tAt t (strOfNums (joinP p))=some i↔i<t.length∧(t.getD i nd0).path=strOfNums (joinP p):=by
 constructor
 ·intro h
  obtain⟨h1,h2,_⟩:=a1n h
  exact⟨h1,by simpa using h2⟩
 ·rintro⟨h1,h2⟩
  cases hf:tAt t (strOfNums (joinP p)) with
  | none =>
   have:=upto_none.1 hf i h1
   rw[decide_eq_true h2] at this
   cases this
  | some j =>
   obtain⟨g1,g2,_⟩:=a1n hf
   rw[S.once j i g1 h1 ((of_decide_eq_true g2).trans h2.symm)]
theorem c2s{ss:List (List Int)}{t:List Nd}(S:Sim ss t):∀(r gone:List (List Int)) (now:Nd) (n:Int),(∀x∈gone++r,isNm x=true)→(gone++r).length≤4→lookG ss 0 gone=(n,0)→now.dir=decide ((inoAt ss n).kind=2) →
  (tWay t now gone r).2=(lookG ss n r).2∧((lookG ss n r).2=0→(tWay t now gone r).1.dir=decide ((inoAt ss (lookG ss n r).1).kind=2)):=by
 intro r
 induction r with
 | nil=>intro gone now n _ _ _ hd;exact⟨rfl,fun _=>hd⟩
 | cons x r ih =>
  intro gone now n hnm hlen hg hd
  rw[tWay,lookG]
  by_cases hk:(inoAt ss n).kind=2
  ·rw[if_neg (by rw[hd,decide_eq_true hk];decide),if_pos hk]
   have hp:∀y∈gone++[x],isNm y=true:=fun y hy=>hnm y (by
    rcases List.mem_append.1 hy with h|h
    ·exact List.mem_append_left _ h
    ·rw[List.mem_singleton.1 h];exact List.mem_append_right _ (List.mem_cons_self ..))
   have hl:(gone++[x]).length≤4:=by simp at hlen ⊢;omega
   cases hf:findO ss n (strOfNums x) with
   | none =>
    cases ht:tAt t (strOfNums (joinP (gone++[x]))) with
    | none=>exact⟨rfl,fun h=>by cases h⟩
    | some i =>
     obtain⟨h1,h2⟩:=(b8s S (by simp) hl hp).1 ht
     obtain⟨k,hk24,hs⟩:=S.back i h1
     obtain⟨p,p0,p4,pn,pp,pl⟩:=hs.way
     have e:=a4k pn hp p4 hl (pp.symm.trans h2)
     subst e
     rw[a2i,hg,if_pos rfl,a3w hk hf] at pl
     exact absurd (show (4:Int)=0 from congrArg Prod.snd pl) (by decide)
   | some k =>
    obtain⟨h1,h2,h3,h4⟩:=(a3r S.fit).1 hf
    obtain⟨i,hi,hs⟩:=S.all k h1 h2
    obtain⟨p,p0,p4,pn,pp,pl⟩:=hs.way
    have hgx:lookG ss 0 (gone++[x])=((entAt ss (k:Int)).target,0):=by
     rw[a2i,hg,if_pos rfl,a2x hk hf];rfl
    have e:=a0r S.fit p.length p (gone++[x]) _ (Nat.le_refl _) pn hp pl hgx
    subst e
    rw[(b8s S p0 hl hp).2 ⟨hi,pp⟩]
    exact ih (gone++[x]) _ _ (by rw[List.append_assoc];exact hnm) (by rw[List.append_assoc];exact hlen) hgx hs.dir
  ·rw[if_pos (by rw[hd,decide_eq_false hk]),if_neg hk]
   exact⟨rfl,fun h=>by cases h⟩
theorem c8p{ss:List (List Int)}{t:List Nd}(S:Sim ss t)(s:ByteArray):(tLook t s).2=(lookV ss (bys s)).2:=by
 rw[tLook,lookV]
 cases h:splitL (bys s) with
 | none=>rfl
 | some ns =>
  obtain⟨_,h2,h3,_⟩:=a1u h
  exact(c2s S ns [] ndRoot 0 (by simpa using h2) (by simpa using h3) rfl (by rw[S.fit.root];rfl)).1
end fs
namespace fs
set_option maxRecDepth 100000
open sec
open ly
open lk
open pa
open al
theorem b0p{ss:List (List Int)}{n:Nat}(h:frI ss=some n):1≤n∧n<16∧∀k:Nat,k<24→(entAt ss (k:Int)).used=true→(entAt ss (k:Int)).target≠(n:Int):=by
 obtain⟨h1,h2,_⟩:=a1n h
 have ht:takenB ss (n:Int)=false:=by simpa using h2
 rw[takenB,Bool.or_eq_false_iff] at ht
 have hn:(n:Int)≠0:=of_decide_eq_false ht.2
 refine⟨by omega,h1,fun k hk hu e => ?_⟩
 have h3:=ht.1
 rw[namedIn,List.any_eq_false] at h3
 exact h3 k (List.mem_range.2 hk) (by rw[hu,decide_eq_true e];rfl)
theorem a8d{ss:List (List Int)}{k:Nat}(h:frE ss=some k):k<24∧(entAt ss (k:Int)).used=false:=by
 obtain⟨h1,h2,_⟩:=a1n h
 exact⟨h1,by simpa using h2⟩
def madeL(ss:List (List Int))(n k:Nat)(kind:Int)(d:Int)(nm:ByteArray):List (List Int):=setE (setI ss n ⟨kind,0,[0,0,0,0]⟩) k ⟨true,d,nm,(n:Int)⟩
theorem d0b{kind:Int}(h:kind=1∨kind=2):rightI ⟨kind,0,[0,0,0,0]⟩=true:=by
 rcases h with rfl|rfl<;>decide
theorem b5h{ss:List (List Int)}(hl:ss.length=65){n k:Nat}(hn:n<16)(hn1:1≤n)(hk:k<24){kind d:Int}{nm:ByteArray}(hd:0≤d∧d<16)(hnm:nameB nm=true)(j:Int) :
  entAt (madeL ss n k kind d nm) j=if j=(k:Int) then ⟨true,d,nm,(n:Int)⟩ else entAt ss j:=by
 rw[madeL,a3d (by rw[a8b];exact hl) hk (by
  rw[a1z rfl]
  simp only[Bool.and_eq_true,decide_eq_true_eq]
  exact⟨⟨⟨⟨hd.1,hd.2⟩,by omega⟩,by omega⟩,hnm⟩),b6k hl hn]
theorem b6a{ss:List (List Int)}(hl:ss.length=65){n k:Nat}(hn:n<16)(hk:k<24){kind d:Int}{nm:ByteArray}(hkd:kind=1∨kind=2)(j:Int) :
  inoAt (madeL ss n k kind d nm) j=if j=(n:Int) then ⟨kind,0,[0,0,0,0]⟩ else inoAt ss j:=by
 rw[madeL,a1e (by rw[a8b];exact hl) hk,b6i hl hn rfl (d0b hkd)]
theorem d3c{ss:List (List Int)}(F:Fit ss){n k:Nat}(hn:frI ss=some n)(hk:frE ss=some k){kind d:Int}{nm:ByteArray}(hkd:kind=1∨kind=2)(hd:0≤d∧d<16)(hnm:nameB nm=true)(hno:findO ss d nm=none):Fit (madeL ss n k kind d nm):=by
 obtain⟨n1,n16,nt⟩:=b0p hn
 obtain⟨k24,ku⟩:=a8d hk
 have hE:=fun j=>b5h (kind:=kind) F.len n16 n1 k24 hd hnm j
 have hI:=fun j=>b6a (d:=d) (nm:=nm) F.len n16 k24 hkd j
 refine⟨by rw[madeL,a1x,a8b];exact F.len,a2a (a2a F.secs (a2s rfl) _) (a0x _) _,?_,?_,?_,?_⟩
 ·rw[hI,if_neg (by omega)];exact F.root
 ·intro i j hi hj hui huj ht
  by_cases ei:i=k<;>by_cases ej:j=k
  ·rw[ei,ej]
  ·rw[hE,hE,if_pos (by rw[ei]),if_neg (by omega)] at ht
   rw[hE,if_neg (by omega)] at huj
   exact absurd ht.symm (nt j hj huj)
  ·rw[hE,hE,if_neg (by omega),if_pos (by rw[ej])] at ht
   rw[hE,if_neg (by omega)] at hui
   exact absurd ht (nt i hi hui)
  ·rw[hE,hE,if_neg (by omega),if_neg (by omega)] at ht
   rw[hE,if_neg (by omega)] at hui huj
   exact F.tgt i j hi hj hui huj ht
 ·intro i hi hu
  by_cases ei:i=k
  ·rw[hE,if_pos (by rw[ei]),hI,if_pos rfl]
   rcases hkd with rfl|rfl<;>decide
  ·rw[hE,if_neg (by omega)] at hu ⊢
   rw[hI,if_neg (nt i hi hu)]
   exact F.live i hi hu
 ·intro i j hi hj hui huj hp hm
  by_cases ei:i=k<;>by_cases ej:j=k
  ·rw[ei,ej]
  ·rw[hE,hE,if_pos (by rw[ei]),if_neg (by omega)] at hp hm
   rw[hE,if_neg (by omega)] at huj
   exact absurd hm.symm ((a6m F).1 hno j hj huj hp.symm)
  ·rw[hE,hE,if_neg (by omega),if_pos (by rw[ej])] at hp hm
   rw[hE,if_neg (by omega)] at hui
   exact absurd hm ((a6m F).1 hno i hi hui hp)
  ·rw[hE,hE,if_neg (by omega),if_neg (by omega)] at hp hm
   rw[hE,if_neg (by omega)] at hui
   exact F.uniq i j hi hj hui (by rw[hE,if_neg (by omega)] at huj;exact huj) hp hm
theorem b6f{ss:List (List Int)}(F:Fit ss){p:List (List Int)}{m:Int}(h:lookG ss 0 p=(m,0)):m=0∨∃k:Nat,k<24∧(entAt ss (k:Int)).used=true∧(entAt ss (k:Int)).target=m:=by
 rcases List.eq_nil_or_concat p with rfl|⟨p',x,rfl⟩
 ·exact Or.inl (congrArg Prod.fst h).symm
 ·obtain⟨k,hk,hu,_,_,_,ht⟩:=a2p F (by simpa using h)
  exact Or.inr ⟨k,hk,hu,ht⟩
theorem d4j{ss ss':List (List Int)}(F:Fit ss)(F':Fit ss')(he:∀k:Nat,k<24→(entAt ss (k:Int)).used=true→entAt ss' (k:Int)=entAt ss (k:Int))
  (hk:∀m:Int,(m=0∨∃k:Nat,k<24∧(entAt ss (k:Int)).used=true∧(entAt ss (k:Int)).target=m)→(inoAt ss' m).kind=(inoAt ss m).kind) :
  ∀(l:Nat) (p:List (List Int)) (m:Int),p.length≤l→lookG ss 0 p=(m,0)→lookG ss' 0 p=(m,0):=by
 intro l
 induction l with
 | zero =>
  intro p m hl h
  obtain rfl:p=[]:=List.eq_nil_of_length_eq_zero (by omega)
  exact h
 | succ l ih =>
  intro p m hl h
  rcases List.eq_nil_or_concat p with rfl|⟨p',x,rfl⟩
  ·exact h
  ·obtain⟨k,hk24,hu,hp,hd,hn,ht⟩:=a2p F (by simpa using h)
   have h1:=ih p' _ (by simp at hl;omega) hp
   have e:=he k hk24 hu
   have h2:=a4e F' (p:=p') (x:=x) (k:=k) hk24 (by rw[e];exact hu) (by rw[e];exact h1) (by rw[e,hk _ (b6f F hp)];exact hd) (by rw[e];exact hn)
   rw[e,ht] at h2
   simpa using h2
end fs
namespace fs
set_option maxRecDepth 100000
open sec
open ly
open lk
open pa
open al
theorem a4o{t:List Nd}{a:Nd}{i:Nat}(h:i<t.length):(t++[a]).getD i nd0=t.getD i nd0:=by
 simp[List.getD,List.getElem?_append_left h]
theorem a7b{t:List Nd}{a:Nd}:(t++[a]).getD t.length nd0=a:=by simp[List.getD]
theorem c4o{ss:List (List Int)}{n k:Nat}(hn:n<16)(hk:k<24){kind d:Int}{nm:ByteArray}{j:Nat}(hj:41≤j):(madeL ss n k kind d nm).getD j zero32=ss.getD j zero32:=by
 rw[madeL,setE,setI]
 have h1:17+k≠j:=by omega
 have h2:1+n≠j:=by omega
 simp[List.getD,List.getElem?_set,h1,h2]
theorem c8b{ss:List (List Int)}(F:Fit ss){n k:Nat}(hn:n<16)(hk:k<24){kind d:Int}{nm:ByteArray}{z:Int}(h:(inoAt ss z).kind=1):readL (madeL ss n k kind d nm) (inoAt ss z)=readL ss (inoAt ss z):=by
 obtain⟨h0,h1,h2⟩:=a3t F.secs z h
 unfold readL
 apply List.map_congr_left
 intro i hi
 have hi2:=List.mem_range.1 hi
 have hb:=h2 i (by omega)
 unfold byteAt
 rw[c4o hn hk (by omega)]
theorem d2u{ss:List (List Int)}{t:List Nd}(S:Sim ss t){n k:Nat}(hn:frI ss=some n)(hk:frE ss=some k){kind d:Int}(hkd:kind=1∨kind=2){dn:List (List Int)}{x:List Int}(hdn:∀y∈dn++[x],isNm y=true)(hl:(dn++[x]).length≤4)(hd:lookG ss 0 dn=(d,0))(hd2:(inoAt ss d).kind=2)(hno:findO ss d (strOfNums x)=none) :
  Sim (madeL ss n k kind d (strOfNums x)) (t++[⟨strOfNums (joinP (dn++[x])),decide (kind=2),ByteArray.empty⟩]):=by
 obtain⟨n1,n16,nt⟩:=b0p hn
 obtain⟨k24,ku⟩:=a8d hk
 have hd16:0≤d∧d<16:=by
  unfold inoAt at hd2
  split at hd2
  ·assumption
  ·exact absurd hd2 (by decide)
 have hx:isNm x=true:=hdn x (by simp)
 have hnm:nameB (strOfNums x)=true:=by rw[a5i,a0o (a2n hx)];exact hx
 have F':=d3c S.fit hn hk hkd hd16 hnm hno
 have hE:=fun j=>b5h (kind:=kind) S.fit.len n16 n1 k24 hd16 hnm j
 have hI:=fun j=>b6a (d:=d) (nm:=strOfNums x) S.fit.len n16 k24 hkd j
 have hold:∀j:Nat,j<24→(entAt ss (j:Int)).used=true→entAt (madeL ss n k kind d (strOfNums x)) (j:Int)=entAt ss (j:Int):=fun j hj hu=>by
  rw[hE,if_neg]
  intro e
  have:j=k:=by omega
  subst this
  rw[ku] at hu;cases hu
 have hin:∀m:Int,(m=0∨∃j:Nat,j<24∧(entAt ss (j:Int)).used=true∧(entAt ss (j:Int)).target=m)→inoAt (madeL ss n k kind d (strOfNums x)) m=inoAt ss m:=fun m hm=>by
  rw[hI,if_neg]
  rintro rfl
  rcases hm with hm|⟨j,hj,hu,ht⟩
  ·omega
  ·exact nt j hj hu ht
 have hway:=fun p m=>d4j S.fit F' hold (fun m hm=>by rw[hin m hm]) p.length p m (Nat.le_refl _)
 have hkeep:∀i j:Nat,i<t.length→j<24→Same ss t i j→Same (madeL ss n k kind d (strOfNums x)) (t++[⟨strOfNums (joinP (dn++[x])),decide (kind=2),ByteArray.empty⟩]) i j:=fun i j hi hj hs=>by
  have he:=hold j hj hs.used
  have hi2:=hin (entAt ss (j:Int)).target (Or.inr ⟨j,hj,hs.used,rfl⟩)
  obtain⟨p,p0,p4,pn,pp,pl⟩:=hs.way
  refine⟨by rw[he];exact hs.used,⟨p,p0,p4,pn,by rw[a4o hi];exact pp,by rw[he];exact hway p _ pl⟩,by rw[a4o hi,he,hi2];exact hs.dir,fun h => ?_⟩
  rw[he,hi2] at h ⊢
  rw[a4o hi,c8b S.fit n16 k24 h]
  exact hs.data h
 have hnew:Same (madeL ss n k kind d (strOfNums x)) (t++[⟨strOfNums (joinP (dn++[x])),decide (kind=2),ByteArray.empty⟩]) t.length k:=by
  have he:entAt (madeL ss n k kind d (strOfNums x)) (k:Int)=⟨true,d,strOfNums x,(n:Int)⟩:=by rw[hE,if_pos rfl]
  have hi2:inoAt (madeL ss n k kind d (strOfNums x)) (n:Int)=⟨kind,0,[0,0,0,0]⟩:=by rw[hI,if_pos rfl]
  refine⟨by rw[he],⟨dn++[x],by simp,hl,hdn,by rw[a7b],?_⟩,by rw[a7b,he,hi2],fun h => ?_⟩
  ·exact a4e F' k24 (by rw[he]) (by rw[he];exact hway dn _ hd) (by rw[he,hin d (b6f S.fit hd)];exact hd2) (by rw[he])
  ·rw[he] at h ⊢
   rw[hi2,a7b]
   rfl
 have hfresh:∀i,i<t.length→(t.getD i nd0).path≠strOfNums (joinP (dn++[x])):=fun i hi e=>by
  obtain⟨j,hj,hs⟩:=S.back i hi
  obtain⟨p,p0,p4,pn,pp,pl⟩:=hs.way
  have e2:=a4k pn hdn p4 hl (pp.symm.trans e)
  subst e2
  rw[a2i,hd,if_pos rfl,a3w hd2 hno] at pl
  exact absurd (show (4:Int)=0 from congrArg Prod.snd pl) (by decide)
 refine⟨F',fun j hj hu => ?_,fun i hi => ?_,fun i j hi hj e => ?_⟩
 ·by_cases ej:j=k
  ·subst ej
   exact⟨t.length,by simp,hnew⟩
  ·rw[hE,if_neg (by omega)] at hu
   obtain⟨i,hi,hs⟩:=S.all j hj hu
   exact⟨i,by simp;omega,hkeep i j hi hj hs⟩
 ·rw[List.length_append] at hi
  by_cases ei:i<t.length
  ·obtain⟨j,hj,hs⟩:=S.back i ei
   exact⟨j,hj,hkeep i j ei hj hs⟩
  ·obtain rfl:i=t.length:=by simp at hi;omega
   exact⟨k,k24,hnew⟩
 ·rw[List.length_append] at hi hj
  simp only[List.length_cons,List.length_nil] at hi hj
  by_cases ei:i<t.length<;>by_cases ej:j<t.length
  ·rw[a4o ei,a4o ej] at e
   exact S.once i j ei ej e
  ·obtain rfl:j=t.length:=by omega
   rw[a4o ei,a7b] at e
   exact absurd e (hfresh i ei)
  ·obtain rfl:i=t.length:=by omega
   rw[a4o ej,a7b] at e
   exact absurd e.symm (hfresh j ej)
  ·omega
end fs
namespace fs
set_option maxRecDepth 100000
open sec
open ly
open lk
open pa
open al
theorem a6l:∀(a b:List Nat) (f:Nat→Nat),a.Nodup→(∀x∈a,∀y∈a,f x=f y→x=y)→(∀x∈a,f x∈b)→a.length≤b.length
 | [],b,f,_,_,_=>Nat.zero_le _
 | x::a,b,f,hn,hi,hb=>by
  rw[List.nodup_cons] at hn
  have h1:=hb x (List.mem_cons_self ..)
  have h2:=a6l a (b.erase (f x)) f hn.2 (fun y hy z hz=>hi y (List.mem_cons_of_mem _ hy) z (List.mem_cons_of_mem _ hz)) (fun y hy=>by
   refine(List.mem_erase_of_ne fun e => ?_).2 (hb y (List.mem_cons_of_mem _ hy))
   exact hn.1 (by rw[← hi y (List.mem_cons_of_mem _ hy) x (List.mem_cons_self ..) e];exact hy))
  rw[List.length_erase_of_mem h1] at h2
  have:=List.length_pos_of_mem h1
  rw[List.length_cons]
  omega
def usedL(ss:List (List Int)):List Nat:=(List.range 24).filter fun k=>(entAt ss (k:Int)).used
theorem usedL_mem{ss:List (List Int)}{k:Nat}:k∈usedL ss↔k<24∧(entAt ss (k:Int)).used=true:=by simp[usedL]
theorem a4h(ss:List (List Int)):(usedL ss).Nodup:=List.nodup_range.filter _
theorem a8l{ss:List (List Int)}{t:List Nd}(S:Sim ss t){i j k:Nat}(hi:i<t.length)(hj:j<t.length)(h1:Same ss t i k)(h2:Same ss t j k):i=j:=by
 obtain⟨p,p0,p4,pn,pp,pl⟩:=h1.way
 obtain⟨q,q0,q4,qn,qp,ql⟩:=h2.way
 have e:=a0r S.fit p.length p q _ (Nat.le_refl _) pn qn pl ql
 subst e
 exact S.once i j hi hj (pp.trans qp.symm)
theorem a8s{ss:List (List Int)}{t:List Nd}(S:Sim ss t){i j k:Nat}(hj:j<24)(hk:k<24)(h1:Same ss t i j)(h2:Same ss t i k):j=k:=by
 obtain⟨p,p0,p4,pn,pp,pl⟩:=h1.way
 obtain⟨q,q0,q4,qn,qp,ql⟩:=h2.way
 have e:=a4k pn qn p4 q4 (pp.symm.trans qp)
 subst e
 exact S.fit.tgt j k hj hk h1.used h2.used (congrArg Prod.fst (pl.symm.trans ql))
theorem b7x{ss:List (List Int)}{t:List Nd}(S:Sim ss t):t.length=(usedL ss).length:=by
 classical
 have hf:∃f:Nat→Nat,∀i,i<t.length→f i<24∧Same ss t i (f i):=⟨fun i=>if h:i<t.length then Classical.choose (S.back i h) else 0,fun i hi=>by simp only[dif_pos hi];exact Classical.choose_spec (S.back i hi)⟩
 have hg:∃g:Nat→Nat,∀k:Nat,k<24→(entAt ss (k:Int)).used=true→g k<t.length∧Same ss t (g k) k:=⟨fun k=>if h:k<24∧(entAt ss (k:Int)).used=true then Classical.choose (S.all k h.1 h.2) else 0,fun k h1 h2=>by simp only[dif_pos (show k<24∧(entAt ss (k:Int)).used=true from⟨h1,h2⟩)];exact Classical.choose_spec (S.all k h1 h2)⟩
 obtain⟨f,hf⟩:=hf
 obtain⟨g,hg⟩:=hg
 refine Nat.le_antisymm ?_ ?_
 ·have:=a6l (List.range t.length) (usedL ss) f List.nodup_range (fun x hx y hy e=>by
   have hx:=List.mem_range.1 hx
   have hy:=List.mem_range.1 hy
   have h1:=(hf x hx).2
   rw[e] at h1
   exact a8l S hx hy h1 (hf y hy).2) (fun x hx=>usedL_mem.2 ⟨(hf x (List.mem_range.1 hx)).1,(hf x (List.mem_range.1 hx)).2.used⟩)
  rwa [List.length_range] at this
 ·have:=a6l (usedL ss) (List.range t.length) g (a4h ss) (fun x hx y hy e=>by
   obtain⟨x1,x2⟩:=usedL_mem.1 hx
   obtain⟨y1,y2⟩:=usedL_mem.1 hy
   have h1:=(hg x x1 x2).2
   rw[e] at h1
   exact a8s S x1 y1 h1 (hg y y1 y2).2) (fun x hx=>List.mem_range.2 (hg x (usedL_mem.1 hx).1 (usedL_mem.1 hx).2).1)
  rwa [List.length_range] at this
theorem d1u{ss:List (List Int)}(F:Fit ss):(usedL ss).length≤15:=by
 have:=a6l (usedL ss) (List.range 15) (fun k:Nat=>(entAt ss (k:Int)).target.toNat-1) (a4h ss) (fun x hx y hy e=>by
  obtain⟨x1,x2⟩:=usedL_mem.1 hx
  obtain⟨y1,y2⟩:=usedL_mem.1 hy
  have hx3:=a1j x2
  have hy3:=a1j y2
  exact F.tgt x y x1 y1 x2 y2 (by omega)) (fun x hx=>by
  obtain⟨x1,x2⟩:=usedL_mem.1 hx
  have:=a1j x2
  exact List.mem_range.2 (by show (entAt ss (x:Int)).target.toNat-1<15;omega))
 rwa [List.length_range] at this
theorem b9c{ss:List (List Int)}(F:Fit ss):∃k,frE ss=some k:=by
 cases h:frE ss with
 | some k=>exact⟨k,rfl⟩
 | none =>
  have h2:usedL ss=List.range 24:=List.filter_eq_self.2 fun k hk=>by
   have:=upto_none.1 h k (List.mem_range.1 hk)
   simpa using this
  have:=d1u F
  rw[h2,List.length_range] at this
  omega
theorem c3h{ss:List (List Int)}(F:Fit ss):frI ss=none↔15≤(usedL ss).length:=by
 classical
 constructor
 ·intro h
  have ht:∀n:Nat,n<15→∃k:Nat,k<24∧(entAt ss (k:Int)).used=true∧(entAt ss (k:Int)).target=((n+1:Nat):Int):=fun n hn=>by
   have h1:=upto_none.1 h (n+1) (by omega)
   have h2:takenB ss ((n+1:Nat):Int)=true:=by simpa using h1
   rw[takenB,Bool.or_eq_true] at h2
   rcases h2 with h2|h2
   ·rw[namedIn,List.any_eq_true] at h2
    obtain⟨k,hk,h3⟩:=h2
    rw[Bool.and_eq_true,decide_eq_true_eq] at h3
    exact⟨k,List.mem_range.1 hk,h3.1,h3.2⟩
   ·have:=of_decide_eq_true h2;omega
  have hg:∃g:Nat→Nat,∀n,n<15→g n<24∧(entAt ss (g n:Int)).used=true∧(entAt ss (g n:Int)).target=((n+1:Nat):Int):=⟨fun n=>if h:n<15 then Classical.choose (ht n h) else 0,fun n hn=>by simp only[dif_pos hn];exact Classical.choose_spec (ht n hn)⟩
  obtain⟨g,hg⟩:=hg
  have:=a6l (List.range 15) (usedL ss) g List.nodup_range (fun x hx y hy e=>by
   have h1:=(hg x (List.mem_range.1 hx)).2.2
   have h2:=(hg y (List.mem_range.1 hy)).2.2
   rw[e] at h1
   omega) (fun x hx=>usedL_mem.2 ⟨(hg x (List.mem_range.1 hx)).1,(hg x (List.mem_range.1 hx)).2.1⟩)
  rwa [List.length_range] at this
 ·intro h
  cases hf:frI ss with
  | none=>rfl
  | some n =>
   obtain⟨n1,n16,nt⟩:=b0p hf
   have:=a6l (n::(usedL ss).map fun k:Nat=>(entAt ss (k:Int)).target.toNat) ((List.range 15).map (· + 1)) id (by
    rw[List.nodup_cons]
    refine⟨fun hm => ?_,?_⟩
    ·obtain⟨k,hk,e⟩:=List.mem_map.1 hm
     obtain⟨k1,k2⟩:=usedL_mem.1 hk
     have:=(a1j k2).2.2.1
     exact nt k k1 k2 (by omega)
    ·refine List.Pairwise.map _ (R:=fun a b=>(a∈usedL ss∧b∈usedL ss)∧a≠b) (fun a b hab => ?_) ?_
     ·obtain⟨⟨ha,hb⟩,hne⟩:=hab
      obtain⟨a1,a2⟩:=usedL_mem.1 ha
      obtain⟨b1,b2⟩:=usedL_mem.1 hb
      have:=(a1j a2).2.2.1
      have:=(a1j b2).2.2.1
      exact fun e=>hne (F.tgt a b a1 b1 a2 b2 (by omega))
     ·exact List.Pairwise.and_mem.1 (a4h ss) |>.imp fun {a b} h=>⟨⟨h.1,h.2.1⟩,h.2.2⟩) (fun x _ y _ e=>e) (fun x hx=>by
    rcases List.mem_cons.1 hx with rfl|hx
    ·exact List.mem_map.2 ⟨x-1,List.mem_range.2 (by omega),by simp;omega⟩
    ·obtain⟨k,hk,rfl⟩:=List.mem_map.1 hx
     obtain⟨k1,k2⟩:=usedL_mem.1 hk
     have:=a1j k2
     exact List.mem_map.2 ⟨(entAt ss (k:Int)).target.toNat-1,List.mem_range.2 (by omega),by simp;omega⟩)
   simp at this
   omega
end fs
namespace fs
set_option maxRecDepth 100000
open sec
open ly
open lk
open pa
open al
theorem a4g{ss:List (List Int)}(hl:ss.length=65){k:Nat}(hk:k<24)(j:Int):entAt (setE ss k ent0) j=if j=(k:Int) then ent0 else entAt ss j:=a3d hl hk a6v j
theorem b2n{ss:List (List Int)}(F:Fit ss){k:Nat}(hk:k<24):Fit (setE ss k ent0):=by
 have hE:=fun j=>a4g F.len hk j
 have hI:=fun j=>a1e F.len hk ent0 j
 have hu:∀j:Nat,(entAt (setE ss k ent0) (j:Int)).used=true→j≠k∧entAt (setE ss k ent0) (j:Int)=entAt ss (j:Int):=fun j h=>by
  by_cases e:j=k
  ·rw[hE,if_pos (by rw[e])] at h
   cases h
  ·exact⟨e,by rw[hE,if_neg (by omega)]⟩
 refine⟨by rw[a1x];exact F.len,a2a F.secs (a0x _) _,by rw[hI];exact F.root,fun i j hi hj h1 h2 h3 => ?_,fun i hi h1 => ?_,fun i j hi hj h1 h2 h3 h4 => ?_⟩
 ·have a1:=(hu i h1).2
  have a2:=(hu j h2).2
  rw[a1] at h1 h3
  rw[a2] at h2 h3
  exact F.tgt i j hi hj h1 h2 h3
 ·rw[hI]
  have a1:=(hu i h1).2
  rw[a1] at h1 ⊢
  exact F.live i hi h1
 ·have a1:=(hu i h1).2
  have a2:=(hu j h2).2
  rw[a1] at h1 h3 h4
  rw[a2] at h2 h3 h4
  exact F.uniq i j hi hj h1 h2 h3 h4
theorem b0g{ss:List (List Int)}(F:Fit ss){k:Nat}(hk:k<24)(hu:(entAt ss (k:Int)).used=true)(hno:∀j:Nat,j<24→(entAt ss (j:Int)).used=true→(entAt ss (j:Int)).parent≠(entAt ss (k:Int)).target) :
  ∀(l:Nat) (p:List (List Int)) (m:Int),p.length≤l→lookG ss 0 p=(m,0)→m≠(entAt ss (k:Int)).target→lookG (setE ss k ent0) 0 p=(m,0):=by
 have F':=b2n F hk
 intro l
 induction l with
 | zero =>
  intro p m hl h _
  obtain rfl:p=[]:=List.eq_nil_of_length_eq_zero (by omega)
  exact h
 | succ l ih =>
  intro p m hl h hm
  rcases List.eq_nil_or_concat p with rfl|⟨p',x,rfl⟩
  ·exact h
  ·obtain⟨j,hj,hju,hp,hd,hn,ht⟩:=a2p F (by simpa using h)
   have hjk:j≠k:=fun e=>hm (by rw[← ht,e])
   have e:entAt (setE ss k ent0) (j:Int)=entAt ss (j:Int):=by rw[a4g F.len hk,if_neg (by omega)]
   have h1:=ih p' _ (by simp at hl;omega) hp (hno j hj hju)
   have h2:=a4e F' (p:=p') (x:=x) (k:=j) hj (by rw[e];exact hju) (by rw[e];exact h1) (by rw[e,a1e F.len hk];exact hd) (by rw[e];exact hn)
   rw[e,ht] at h2
   simpa using h2
def upI(i a:Nat):Nat:=if a<i then a else a+1
theorem getD_drop{t:List Nd}{i a:Nat}:(t.eraseIdx i).getD a nd0=t.getD (upI i a) nd0:=by
 rw[List.getD,List.getD,List.getElem?_eraseIdx,upI]
 split<;>rfl
theorem upI_ne(i a:Nat):upI i a≠i:=by unfold upI;split<;>omega
theorem c7t{i a b:Nat}(h:upI i a=upI i b):a=b:=by
 unfold upI at h
 split at h<;>split at h<;>omega
theorem b4e{i a n:Nat}(hi:i<n)(h:a<n-1):upI i a<n:=by unfold upI;split<;>omega
theorem d5f{i b n:Nat}(hi:i<n)(hb:b<n)(h:b≠i):∃a,a<n-1∧upI i a=b:=by
 by_cases hl:b<i
 ·exact⟨b,by omega,by unfold upI;rw[if_pos hl]⟩
 ·exact⟨b-1,by omega,by unfold upI;rw[if_neg (by omega)];omega⟩
theorem c0k{ss:List (List Int)}{t:List Nd}(S:Sim ss t){i k:Nat}(hi:i<t.length)(hk:k<24)(hs:Same ss t i k)(hno:∀j:Nat,j<24→(entAt ss (j:Int)).used=true→(entAt ss (j:Int)).parent≠(entAt ss (k:Int)).target):Sim (setE ss k ent0) (t.eraseIdx i):=by
 have F':=b2n S.fit hk
 have hlen:(t.eraseIdx i).length=t.length-1:=by rw[List.length_eraseIdx,if_pos hi]
 have hE:=fun j=>a4g S.fit.len hk j
 have hI:=fun j=>a1e S.fit.len hk ent0 j
 have hg:∀j,17+k≠j→(ss.set (17+k) (entV ent0)).getD j zero32=ss.getD j zero32:=fun j h=>by simp[List.getD,List.getElem?_set,h]
 have hrd:∀z,(inoAt ss z).kind=1→readL (setE ss k ent0) (inoAt ss z)=readL ss (inoAt ss z):=fun z h=>by
  obtain⟨h0,h1,h2⟩:=a3t S.fit.secs z h
  unfold readL
  apply List.map_congr_left
  intro a ha
  have ha2:=List.mem_range.1 ha
  have hb:=h2 a (by omega)
  unfold byteAt setE
  have h3:17+k≠40+((inoAt ss z).b.getD (a / 32) 0).toNat:=by omega
  congr 1
  exact hg _ h3
 have hkeep:∀a j:Nat,j<24→j≠k→Same ss t (upI i a) j→Same (setE ss k ent0) (t.eraseIdx i) a j:=fun a j hj hjk h=>by
  have e:entAt (setE ss k ent0) (j:Int)=entAt ss (j:Int):=by rw[hE,if_neg (by omega)]
  obtain⟨p,p0,p4,pn,pp,pl⟩:=h.way
  have hne:(entAt ss (j:Int)).target≠(entAt ss (k:Int)).target:=fun e2=>hjk (S.fit.tgt j k hj hk h.used hs.used e2)
  refine⟨by rw[e];exact h.used,⟨p,p0,p4,pn,by rw[getD_drop];exact pp,by rw[e];exact b0g S.fit hk hs.used hno p.length p _ (Nat.le_refl _) pl hne⟩,by rw[getD_drop,e,hI];exact h.dir,fun h1 => ?_⟩
  rw[e,hI] at h1 ⊢
  rw[getD_drop,hrd _ h1]
  exact h.data h1
 refine⟨F',fun j hj hu => ?_,fun a ha => ?_,fun a b ha hb e => ?_⟩
 ·have hjk:j≠k:=fun e=>by
   subst e
   rw[hE,if_pos rfl] at hu
   cases hu
  rw[hE,if_neg (by omega)] at hu
  obtain⟨b,hb,h⟩:=S.all j hj hu
  have hbi:b≠i:=fun e=>by
   subst e
   exact hjk (a8s S hj hk h hs)
  obtain⟨a,ha,hab⟩:=d5f hi hb hbi
  exact⟨a,by rw[hlen];exact ha,hkeep a j hj hjk (by rw[hab];exact h)⟩
 ·rw[hlen] at ha
  obtain⟨j,hj,h⟩:=S.back (upI i a) (b4e hi ha)
  have hjk:j≠k:=fun e=>by
   subst e
   exact upI_ne i a (a8l S (b4e hi ha) hi h hs)
  exact⟨j,hj,hkeep a j hj hjk h⟩
 ·rw[hlen] at ha hb
  rw[getD_drop,getD_drop] at e
  exact c7t (S.once _ _ (b4e hi ha) (b4e hi hb) e)
end fs
namespace fs
set_option maxRecDepth 100000
open sec
open ly
open lk
open pa
open al
def movedL(ss:List (List Int))(a k:Nat)(x:Ent):List (List Int):=if k=a then setE ss a x else setE (setE ss k x) a ent0
theorem b1c{ss:List (List Int)}(hl:ss.length=65){a k:Nat}(ha:a<24)(hk:k<24){x:Ent}(hx:rightE x=true)(j:Int):entAt (movedL ss a k x) j=if j=(k:Int) then x else if j=(a:Int) then ent0 else entAt ss j:=by
 unfold movedL
 by_cases e:k=a
 ·subst e
  rw[if_pos rfl,a3d hl hk hx]
  split<;>rfl
 ·rw[if_neg e,a3d (by rw[a1x];exact hl) ha a6v,a3d hl hk hx]
  by_cases ej:j=(k:Int)
  ·rw[if_pos ej,if_neg (by omega),if_pos ej]
  ·rw[if_neg ej,if_neg ej]
theorem a5c{ss:List (List Int)}(hl:ss.length=65){a k:Nat}(ha:a<24)(hk:k<24)(x:Ent)(j:Int):inoAt (movedL ss a k x) j=inoAt ss j:=by
 unfold movedL
 split
 ·rw[a1e hl ha]
 ·rw[a1e (by rw[a1x];exact hl) ha,a1e hl hk]
theorem b5e{l:List (List Int)}{p q:Nat}(h:p≠q)(s:List Int):(l.set p s).getD q zero32=l.getD q zero32:=by simp[List.getD,List.getElem?_set,h]
theorem a2h{ss:List (List Int)}(hs:Secs ss){k:Nat}(hk:k<24)(x:Ent){z:Int}(h:(inoAt ss z).kind=1):readL (setE ss k x) (inoAt ss z)=readL ss (inoAt ss z):=by
 obtain⟨h0,h1,h2⟩:=a3t hs z h
 unfold readL
 apply List.map_congr_left
 intro a ha
 have ha2:=List.mem_range.1 ha
 have hb:=h2 a (by omega)
 unfold byteAt setE
 have h3:17+k≠40+((inoAt ss z).b.getD (a / 32) 0).toNat:=by omega
 rw[b5e h3]
theorem d0g{ss:List (List Int)}(a k:Nat)(x:Ent):(movedL ss a k x).length=ss.length:=by
 unfold movedL
 split
 ·exact a1x ..
 ·rw[a1x,a1x]
theorem c5t{ss:List (List Int)}(hs:Secs ss)(a k:Nat)(x:Ent):Secs (movedL ss a k x):=by
 unfold movedL
 split
 ·exact a2a hs (a0x _) _
 ·exact a2a (a2a hs (a0x _) _) (a0x _) _
theorem c5m{ss:List (List Int)}(hs:Secs ss)(hl:ss.length=65){a k:Nat}(ha:a<24)(hk:k<24)(x:Ent){z:Int}(h:(inoAt ss z).kind=1):readL (movedL ss a k x) (inoAt ss z)=readL ss (inoAt ss z):=by
 unfold movedL
 split
 ·exact a2h hs ha x h
 ·have e:=a1e hl hk x z
  have h2:=a2h (a2a hs (a0x x) (17+k)) (ss:=setE ss k x) ha ent0 (z:=z) (by rw[e];exact h)
  rw[e] at h2
  rw[h2,a2h hs hk x h]
structure Mv (ss:List (List Int)) (t:List Nd) (i a k:Nat) (fn dn:List (List Int)) (x:List Int) (d:Int):Prop where
 sim:Sim ss t
 hi:i<t.length
 ha:a<24
 hk:k<24
 same:Same ss t i a
 free:k=a∨(entAt ss (k:Int)).used=false
 fn4:fn.length≤4
 fnN:∀y∈fn,isNm y=true
 fnW:lookG ss 0 fn=((entAt ss (a:Int)).target,0)
 dnN:∀y∈dn++[x],isNm y=true
 dn4:(dn++[x]).length≤4
 dnW:lookG ss 0 dn=(d,0)
 dk:(inoAt ss d).kind=2
 no:findO ss d (strOfNums x)=none
 deep:(inoAt ss (entAt ss (a:Int)).target).kind=2→¬fn <+: dn∧(dn++[x]).length≤fn.length
def mvX(ss:List (List Int))(a:Nat)(d:Int)(x:List Int):Ent:=⟨true,d,strOfNums x,(entAt ss (a:Int)).target⟩
theorem b5g{ss:List (List Int)}{d:Int}(h:(inoAt ss d).kind=2):0≤d∧d<16:=by
 unfold inoAt at h
 split at h
 ·assumption
 ·exact absurd h (by decide)
theorem Mv.right{ss:List (List Int)}{t:List Nd}{i a k:Nat}{fn dn:List (List Int)}{x:List Int}{d:Int}(M:Mv ss t i a k fn dn x d):rightE (mvX ss a d x)=true:=by
 have hx:isNm x=true:=M.dnN x (by simp)
 have hnm:nameB (strOfNums x)=true:=by rw[a5i,a0o (a2n hx)];exact hx
 have hu:=a1j M.same.used
 have hd:=b5g M.dk
 rw[a1z rfl]
 simp only[Bool.and_eq_true,decide_eq_true_eq]
 exact⟨⟨⟨⟨hd.1,hd.2⟩,hu.2.2.1⟩,hu.2.2.2.1⟩,hnm⟩
theorem Mv.apart{ss:List (List Int)}{t:List Nd}{i a k:Nat}{fn dn:List (List Int)}{x:List Int}{d:Int}(M:Mv ss t i a k fn dn x d):¬fn <+: dn:=by
 by_cases h2:(inoAt ss (entAt ss (a:Int)).target).kind=2
 ·exact(M.deep h2).1
 ·rintro⟨r,rfl⟩
  have h:=M.dnW
  rw[a2i,M.fnW,if_pos rfl] at h
  cases r with
  | nil =>
   have:(entAt ss (a:Int)).target=d:=congrArg Prod.fst h
   rw[this] at h2
   exact h2 M.dk
  | cons y r =>
   rw[a3x h2] at h
   exact absurd (show (6:Int)=0 from congrArg Prod.snd h) (by decide)
theorem Mv.fn0{ss:List (List Int)}{t:List Nd}{i a k:Nat}{fn dn:List (List Int)}{x:List Int}{d:Int}(M:Mv ss t i a k fn dn x d):fn≠[]:=fun e=>by
 have h:=M.fnW
 rw[e] at h
 have:(0:Int)=(entAt ss (a:Int)).target:=congrArg Prod.fst h
 have:=(a1j M.same.used).2.2.1
 omega
theorem Mv.used{ss:List (List Int)}{t:List Nd}{i a k:Nat}{fn dn:List (List Int)}{x:List Int}{d:Int}(M:Mv ss t i a k fn dn x d){j:Nat}(h:(entAt (movedL ss a k (mvX ss a d x)) (j:Int)).used=true) :
  (j=k∧entAt (movedL ss a k (mvX ss a d x)) (j:Int)=mvX ss a d x)∨(j≠k∧j≠a∧entAt (movedL ss a k (mvX ss a d x)) (j:Int)=entAt ss (j:Int)∧(entAt ss (j:Int)).used=true):=by
 have hE:=b1c M.sim.fit.len M.ha M.hk M.right (j:Int)
 by_cases e:j=k
 ·subst e
  rw[if_pos rfl] at hE
  exact Or.inl ⟨rfl,hE⟩
 ·rw[if_neg (by omega)] at hE
  by_cases e2:j=a
  ·subst e2
   rw[if_pos rfl] at hE
   rw[hE] at h
   cases h
  ·rw[if_neg (by omega)] at hE
   exact Or.inr ⟨e,e2,hE,by rw[hE] at h;exact h⟩
theorem Mv.kept{ss:List (List Int)}{t:List Nd}{i a k:Nat}{fn dn:List (List Int)}{x:List Int}{d:Int}(M:Mv ss t i a k fn dn x d){j:Nat}(hu:(entAt ss (j:Int)).used=true)(hj:j≠a):j≠k∧entAt (movedL ss a k (mvX ss a d x)) (j:Int)=entAt ss (j:Int):=by
 have hjk:j≠k:=fun e=>by
  subst e
  rcases M.free with h|h
  ·exact hj h
  ·rw[h] at hu;cases hu
 refine⟨hjk,?_⟩
 rw[b1c M.sim.fit.len M.ha M.hk M.right,if_neg (by omega),if_neg (by omega)]
theorem Mv.new{ss:List (List Int)}{t:List Nd}{i a k:Nat}{fn dn:List (List Int)}{x:List Int}{d:Int}(M:Mv ss t i a k fn dn x d):entAt (movedL ss a k (mvX ss a d x)) (k:Int)=mvX ss a d x:=by
 rw[b1c M.sim.fit.len M.ha M.hk M.right,if_pos rfl]
theorem Mv.fit{ss:List (List Int)}{t:List Nd}{i a k:Nat}{fn dn:List (List Int)}{x:List Int}{d:Int}(M:Mv ss t i a k fn dn x d):Fit (movedL ss a k (mvX ss a d x)):=by
 have F:=M.sim.fit
 have hI:=fun j=>a5c F.len M.ha M.hk (mvX ss a d x) j
 have hno:=(a6m F).1 M.no
 refine⟨by rw[d0g];exact F.len,c5t F.secs _ _ _,by rw[hI];exact F.root,fun u v hu hv h1 h2 h3 => ?_,fun u hu h1 => ?_,fun u v hu hv h1 h2 h3 h4 => ?_⟩
 ·rcases M.used h1 with⟨e1,g1⟩|⟨e1,e1',g1,u1⟩<;>rcases M.used h2 with⟨e2,g2⟩|⟨e2,e2',g2,u2⟩<;>rw[g1,g2] at h3
  ·rw[e1,e2]
  ·exact absurd (F.tgt a v M.ha hv M.same.used u2 h3) (fun e=>e2' e.symm)
  ·exact absurd (F.tgt u a hu M.ha u1 M.same.used h3) e1'
  ·exact F.tgt u v hu hv u1 u2 h3
 ·rw[hI]
  rcases M.used h1 with⟨e1,g1⟩|⟨e1,e1',g1,u1⟩<;>rw[g1]
  ·exact F.live a M.ha M.same.used
  ·exact F.live u hu u1
 ·rcases M.used h1 with⟨e1,g1⟩|⟨e1,e1',g1,u1⟩<;>rcases M.used h2 with⟨e2,g2⟩|⟨e2,e2',g2,u2⟩<;>rw[g1,g2] at h3 h4
  ·rw[e1,e2]
  ·exact absurd h4.symm (hno v hv u2 h3.symm)
  ·exact absurd h4 (hno u hu u1 h3)
  ·exact F.uniq u v hu hv u1 u2 h3 h4
theorem Mv.stay{ss:List (List Int)}{t:List Nd}{i a k:Nat}{fn dn:List (List Int)}{x:List Int}{d:Int}(M:Mv ss t i a k fn dn x d) :
  ∀(l:Nat) (p:List (List Int)) (m:Int),p.length≤l→(∀y∈p,isNm y=true)→lookG ss 0 p=(m,0)→¬fn <+: p→lookG (movedL ss a k (mvX ss a d x)) 0 p=(m,0):=by
 intro l
 induction l with
 | zero =>
  intro p m hl _ h _
  obtain rfl:p=[]:=List.eq_nil_of_length_eq_zero (by omega)
  exact h
 | succ l ih =>
  intro p m hl hp h hno
  rcases List.eq_nil_or_concat p with rfl|⟨p',y,rfl⟩
  ·exact h
  ·rw[List.concat_eq_append] at *
   obtain⟨j,hj,hju,hpp,hd,hn,ht⟩:=a2p M.sim.fit h
   have hja:j≠a:=fun e=>by
    subst e
    have:=a0r M.sim.fit fn.length fn (p'++[y]) m (Nat.le_refl _) M.fnN hp (by rw[M.fnW,ht]) h
    exact hno (by rw[this];exact List.prefix_refl _)
   obtain⟨_,e⟩:=M.kept hju hja
   have h1:=ih p' _ (by simp at hl;omega) (fun z hz=>hp z (List.mem_append_left _ hz)) hpp (fun hf=>hno (hf.trans (List.prefix_append _ _)))
   have h2:=a4e M.fit (p:=p') (x:=y) (k:=j) hj (by rw[e];exact hju) (by rw[e];exact h1) (by rw[e,a5c M.sim.fit.len M.ha M.hk];exact hd) (by rw[e];exact hn)
   rw[e,ht] at h2
   exact h2
theorem Mv.follow{ss:List (List Int)}{t:List Nd}{i a k:Nat}{fn dn:List (List Int)}{x:List Int}{d:Int}(M:Mv ss t i a k fn dn x d) :
  ∀(l:Nat) (r:List (List Int)) (m:Int),r.length≤l→(∀y∈r,isNm y=true)→lookG ss 0 (fn++r)=(m,0)→lookG (movedL ss a k (mvX ss a d x)) 0 (dn++[x]++r)=(m,0):=by
 have h0:lookG (movedL ss a k (mvX ss a d x)) 0 (dn++[x])=((entAt ss (a:Int)).target,0):=by
  have hd:=M.stay dn.length dn d (Nat.le_refl _) (fun y hy=>M.dnN y (List.mem_append_left _ hy)) M.dnW M.apart
  have h2:=a4e M.fit (p:=dn) (x:=x) (k:=k) M.hk (by rw[M.new];rfl) (by rw[M.new];exact hd) (by rw[M.new,a5c M.sim.fit.len M.ha M.hk];exact M.dk) (by rw[M.new];rfl)
  rw[M.new] at h2
  exact h2
 intro l
 induction l with
 | zero =>
  intro r m hl _ h
  obtain rfl:r=[]:=List.eq_nil_of_length_eq_zero (by omega)
  rw[List.append_nil] at h ⊢
  rw[M.fnW] at h
  rw[h0,h]
 | succ l ih =>
  intro r m hl hr h
  rcases List.eq_nil_or_concat r with rfl|⟨r',y,rfl⟩
  ·rw[List.append_nil] at h ⊢
   rw[M.fnW] at h
   rw[h0,h]
  ·rw[List.concat_eq_append] at *
   rw[← List.append_assoc] at h ⊢
   obtain⟨j,hj,hju,hpp,hd,hn,ht⟩:=a2p M.sim.fit h
   have hja:j≠a:=fun e=>by
    subst e
    have hnm:∀z∈fn++r'++[y],isNm z=true:=fun z hz=>by
     rw[List.append_assoc] at hz
     rcases List.mem_append.1 hz with hz|hz
     ·exact M.fnN z hz
     ·exact hr z hz
    have:=a0r M.sim.fit fn.length fn (fn++r'++[y]) m (Nat.le_refl _) M.fnN hnm (by rw[M.fnW,ht]) h
    have:=congrArg List.length this
    simp at this
   obtain⟨_,e⟩:=M.kept hju hja
   have h1:=ih r' _ (by simp at hl;omega) (fun z hz=>hr z (List.mem_append_left _ hz)) hpp
   have h2:=a4e M.fit (p:=dn++[x]++r') (x:=y) (k:=j) hj (by rw[e];exact hju) (by rw[e];exact h1) (by rw[e,a5c M.sim.fit.len M.ha M.hk];exact hd) (by rw[e];exact hn)
   rw[e,ht] at h2
   exact h2
def mvN(f t:ByteArray)(a:Nd):Nd:=if underB (bys a.path) (bys f) then ⟨strOfNums (bys t++(bys a.path).drop f.size),a.dir,a.data⟩ else a
theorem a6h{p q:List (List Int)}(hp:∀y∈p,isNm y=true)(hq:∀y∈q,isNm y=true)(lp:p.length≤4)(lq:q.length≤4):underB (bys (strOfNums (joinP p))) (bys (strOfNums (joinP q)))=decide (q <+: p):=by
 rw[a0o (a1h hp),a0o (a1h hq),underB,a2m hp lp,a2m hq lq]
 show (decide (q.length≤p.length) && decide (p.take q.length=q))=_
 rw[← Bool.decide_and]
 refine decide_eq_decide.2 ⟨fun h => ?_,fun h=>⟨h.length_le,(List.prefix_iff_eq_take.1 h).symm⟩⟩
 rw[← h.2]
 exact List.take_prefix _ _
theorem b7a{p r:List (List Int)}(h:p≠[]):joinP (p++r)=joinP p++joinL r:=by
 rw[joinP,joinP,if_neg h,if_neg (by simp[h]),joinL,joinL,joinL,List.map_append,List.flatten_append]
theorem mvN_in{f:List (List Int)}{u r:List (List Int)}(f0:f≠[])(u0:u≠[])(hf:∀y∈f++r,isNm y=true)(hu:∀y∈u,isNm y=true)(lf:(f++r).length≤4){a:Nd}(ha:a.path=strOfNums (joinP (f++r))) :
  mvN (strOfNums (joinP f)) (strOfNums (joinP u)) a=⟨strOfNums (joinP (u++r)),a.dir,a.data⟩:=by
 have hf1:∀y∈f,isNm y=true:=fun y hy=>hf y (List.mem_append_left _ hy)
 have hun:=a6h hf hf1 lf (by simp at lf;omega)
 rw[mvN,ha,hun,if_pos (by simp),a0o (a1h hf),a0o (a1h hu),strOfNums_size,b7a f0,List.drop_left,b7a u0]
theorem mvN_out{f p:List (List Int)}(hp:∀y∈p,isNm y=true)(hf:∀y∈f,isNm y=true)(lp:p.length≤4)(lf:f.length≤4){a:Nd}(ha:a.path=strOfNums (joinP p))(h:¬f <+: p)(t:ByteArray):mvN (strOfNums (joinP f)) t a=a:=by
 rw[mvN,ha,a6h hp hf lp lf,if_neg (by simp[h])]
theorem getD_map{t:List Nd}(g:Nd→Nd){i:Nat}(h:i<t.length):(t.map g).getD i nd0=g (t.getD i nd0):=by simp[List.getD,h]
theorem b5f(f t:ByteArray)(a:Nd):(mvN f t a).dir=a.dir∧(mvN f t a).data=a.data:=by
 unfold mvN
 split<;>exact⟨rfl,rfl⟩
theorem Mv.sims{ss:List (List Int)}{t:List Nd}{i a k:Nat}{fn dn:List (List Int)}{x:List Int}{d:Int}(M:Mv ss t i a k fn dn x d):Sim (movedL ss a k (mvX ss a d x)) (t.map (mvN (strOfNums (joinP fn)) (strOfNums (joinP (dn++[x]))))):=by
 have S:=M.sim
 have hI:=fun j=>a5c S.fit.len M.ha M.hk (mvX ss a d x) j
 have key:∀b j:Nat,b<t.length→j<24→Same ss t b j→Same (movedL ss a k (mvX ss a d x)) (t.map (mvN (strOfNums (joinP fn)) (strOfNums (joinP (dn++[x]))))) b (if j=a then k else j):=fun b j hb hj hs=>by
  obtain⟨p,p0,p4,pn,pp,pl⟩:=hs.way
  have hent:(entAt (movedL ss a k (mvX ss a d x)) ((if j=a then k else j:Nat):Int)).used=true∧(entAt (movedL ss a k (mvX ss a d x)) ((if j=a then k else j:Nat):Int)).target=(entAt ss (j:Int)).target:=by
   by_cases e:j=a
   ·rw[if_pos e,M.new,e];exact⟨rfl,rfl⟩
   ·rw[if_neg e,(M.kept hs.used e).2];exact⟨hs.used,rfl⟩
  obtain⟨he1,he2⟩:=hent
  have hway:∃q,q≠[]∧q.length≤4∧(∀y∈q,isNm y=true)∧((t.map (mvN (strOfNums (joinP fn)) (strOfNums (joinP (dn++[x]))))).getD b nd0).path=strOfNums (joinP q)∧lookG (movedL ss a k (mvX ss a d x)) 0 q=((entAt ss (j:Int)).target,0):=by
   rw[getD_map _ hb]
   by_cases hf:fn <+: p
   ·obtain⟨r,rfl⟩:=hf
    have hrn:∀y∈r,isNm y=true:=fun y hy=>pn y (List.mem_append_right _ hy)
    refine⟨dn++[x]++r,by simp,?_,fun y hy => ?_,?_,M.follow r.length r _ (Nat.le_refl _) hrn pl⟩
    ·by_cases hr:r=[]
     ·rw[hr,List.append_nil];exact M.dn4
     ·have hk2:(inoAt ss (entAt ss (a:Int)).target).kind=2:=by
       by_cases h2:(inoAt ss (entAt ss (a:Int)).target).kind=2
       ·exact h2
       ·rw[a2i,M.fnW,if_pos rfl] at pl
        obtain⟨y,r',rfl⟩:=List.exists_cons_of_ne_nil hr
        rw[a3x h2] at pl
        exact absurd (show (6:Int)=0 from congrArg Prod.snd pl) (by decide)
      have:=(M.deep hk2).2
      simp at this p4 ⊢
      omega
    ·rcases List.mem_append.1 hy with hy|hy
     ·exact M.dnN y hy
     ·exact hrn y hy
    ·rw[mvN_in M.fn0 (by simp) pn M.dnN p4 pp]
   ·exact⟨p,p0,p4,pn,by rw[mvN_out pn M.fnN p4 M.fn4 pp hf];exact pp,M.stay p.length p _ (Nat.le_refl _) pn pl hf⟩
  refine⟨he1,?_,?_,fun h => ?_⟩
  ·obtain⟨q,q0,q4,qn,qp,ql⟩:=hway
   exact⟨q,q0,q4,qn,qp,by rw[he2];exact ql⟩
  ·rw[getD_map _ hb,(b5f _ _ _).1,he2,hI];exact hs.dir
  ·rw[he2,hI] at h ⊢
   rw[getD_map _ hb,(b5f _ _ _).2,c5m S.fit.secs S.fit.len M.ha M.hk _ h]
   exact hs.data h
 refine⟨M.fit,fun j hj hu => ?_,fun b hb => ?_,fun b c hb hc e => ?_⟩
 ·rcases M.used hu with⟨e,_⟩|⟨e,e',_,u⟩
  ·have:=key i a M.hi M.ha M.same
   rw[if_pos rfl] at this
   exact⟨i,by rw[List.length_map];exact M.hi,by rw[e];exact this⟩
  ·obtain⟨b,hb,hs⟩:=S.all j hj u
   have:=key b j hb hj hs
   rw[if_neg e'] at this
   exact⟨b,by rw[List.length_map];exact hb,this⟩
 ·rw[List.length_map] at hb
  obtain⟨j,hj,hs⟩:=S.back b hb
  exact⟨if j=a then k else j,by split;exact M.hk;exact hj,key b j hb hj hs⟩
 ·rw[List.length_map] at hb hc
  obtain⟨j,hj,hs⟩:=S.back b hb
  obtain⟨l,hl,hs2⟩:=S.back c hc
  have k1:=key b j hb hj hs
  have k2:=key c l hc hl hs2
  obtain⟨p,p0,p4,pn,pp,pl⟩:=k1.way
  obtain⟨q,q0,q4,qn,qp,ql⟩:=k2.way
  have e2:=a4k pn qn p4 q4 (by rw[← pp,← qp];exact e)
  subst e2
  have ht:(entAt (movedL ss a k (mvX ss a d x)) ((if j=a then k else j:Nat):Int)).target=(entAt (movedL ss a k (mvX ss a d x)) ((if l=a then k else l:Nat):Int)).target:=congrArg Prod.fst (pl.symm.trans ql)
  have h1:∀j:Nat,(entAt ss (j:Int)).used=true→(entAt (movedL ss a k (mvX ss a d x)) ((if j=a then k else j:Nat):Int)).target=(entAt ss (j:Int)).target:=fun j hu=>by
   by_cases e:j=a
   ·rw[if_pos e,M.new,e];rfl
   ·rw[if_neg e,(M.kept hu e).2]
  rw[h1 j hs.used,h1 l hs2.used] at ht
  have:=S.fit.tgt j l hj hl hs.used hs2.used ht
  subst this
  exact a8l S hb hc hs hs2
end fs
namespace fs
set_option maxRecDepth 100000
open sec
open ly
open lk
open pa
open al
structure Alike (ss ss':List (List Int)):Prop where
 len:ss'.length=ss.length
 secs:Secs ss'
 ent:∀j:Int,entAt ss' j=entAt ss j
 kind:∀m:Int,(inoAt ss' m).kind=(inoAt ss m).kind
theorem Alike.find{ss ss':List (List Int)}(A:Alike ss ss')(d:Int)(nm:ByteArray):findO ss' d nm=findO ss d nm:=by
 unfold findO
 have:inB ss' d nm=inB ss d nm:=by
  funext k
  simp only[inB,standB,A.ent,A.kind]
 rw[this]
theorem Alike.look{ss ss':List (List Int)}(A:Alike ss ss'):∀(p:List (List Int)) (n:Int),lookG ss' n p=lookG ss n p
 | [],n=>rfl
 | x::r,n=>by
  rw[lookG,lookG,A.kind,A.find]
  split
  ·split
   ·rw[A.ent];exact A.look r _
   ·rfl
  ·rfl
theorem Alike.fit{ss ss':List (List Int)}(A:Alike ss ss')(F:Fit ss):Fit ss' where
 len:=by rw[A.len];exact F.len
 secs:=A.secs
 root:=by rw[A.kind];exact F.root
 tgt:=fun j k hj hk h1 h2 h3=>by
  rw[A.ent] at h1 h2 h3
  rw[A.ent] at h3
  exact F.tgt j k hj hk h1 h2 h3
 live:=fun k hk h=>by
  rw[A.ent] at h ⊢
  rw[A.kind];exact F.live k hk h
 uniq:=fun j k hj hk h1 h2 h3 h4=>by
  rw[A.ent,A.ent] at h3 h4
  rw[A.ent] at h1 h2
  exact F.uniq j k hj hk h1 h2 h3 h4
theorem a2z{t:List Nd}{i:Nat}(h:i<t.length)(a:Nd):(t.set i a).getD i nd0=a:=by simp[List.getD,h]
theorem getD_set_ne{t:List Nd}{i j:Nat}(h:j≠i)(a:Nd):(t.set i a).getD j nd0=t.getD j nd0:=by
 have h2:¬i=j:=fun e=>h e.symm
 simp[List.getD,List.getElem?_set,h2]
def withD(a:Nd)(d:ByteArray):Nd:=⟨a.path,a.dir,d⟩
theorem c2g{ss ss':List (List Int)}{t:List Nd}(S:Sim ss t)(A:Alike ss ss'){i k:Nat}(hi:i<t.length)(hk:k<24)(hs:Same ss t i k)
  (hR:∀j:Nat,j<24→j≠k→(entAt ss (j:Int)).used=true→(inoAt ss (entAt ss (j:Int)).target).kind=1→readL ss' (inoAt ss' (entAt ss (j:Int)).target)=readL ss (inoAt ss (entAt ss (j:Int)).target))
  (d:ByteArray) (hd:bys d=readL ss' (inoAt ss' (entAt ss (k:Int)).target)):Sim ss' (t.set i (withD (t.getD i nd0) d)):=by
 have key:∀b j:Nat,b<t.length→j<24→Same ss t b j→Same ss' (t.set i (withD (t.getD i nd0) d)) b j:=fun b j hb hj h=>by
  obtain⟨p,p0,p4,pn,pp,pl⟩:=h.way
  by_cases e:b=i
  ·subst e
   obtain rfl:=a8s S hj hk h hs
   refine⟨by rw[A.ent];exact h.used,⟨p,p0,p4,pn,by rw[a2z hb];exact pp,by rw[A.ent,A.look];exact pl⟩,by rw[a2z hb,A.ent,A.kind];exact h.dir,fun _ => ?_⟩
   rw[a2z hb,A.ent]
   exact hd
  ·have hjk:j≠k:=fun e2=>by
    subst e2
    exact e (a8l S hb hi h hs)
   refine⟨by rw[A.ent];exact h.used,⟨p,p0,p4,pn,by rw[getD_set_ne e];exact pp,by rw[A.ent,A.look];exact pl⟩,by rw[getD_set_ne e,A.ent,A.kind];exact h.dir,fun h1 => ?_⟩
   rw[A.ent,A.kind] at h1
   rw[getD_set_ne e,A.ent,hR j hj hjk h.used h1]
   exact h.data h1
 have hp:∀b,b<t.length→((t.set i (withD (t.getD i nd0) d)).getD b nd0).path=(t.getD b nd0).path:=fun b hb=>by
  by_cases e:b=i
  ·subst e;rw[a2z hb];rfl
  ·rw[getD_set_ne e]
 refine⟨A.fit S.fit,fun j hj hu => ?_,fun b hb => ?_,fun b c hb hc e => ?_⟩
 ·rw[A.ent] at hu
  obtain⟨b,hb,h⟩:=S.all j hj hu
  exact⟨b,by rw[List.length_set];exact hb,key b j hb hj h⟩
 ·rw[List.length_set] at hb
  obtain⟨j,hj,h⟩:=S.back b hb
  exact⟨j,hj,key b j hb hj h⟩
 ·rw[List.length_set] at hb hc
  rw[hp b hb,hp c hc] at e
  exact S.once b c hb hc e
def needAt(ss:List (List Int))(k:Nat):Nat:=need (inoAt ss (entAt ss (k:Int)).target).size.toNat
def blkAt(ss:List (List Int))(k i:Nat):Int:=(inoAt ss (entAt ss (k:Int)).target).b.getD i 0
theorem a3v{ss:List (List Int)}(m:Int):rightI (inoAt ss m)=true:=by
 unfold inoAt
 split
 ·rw[inoOfV]
  split
  ·rename_i h
   rw[inoOfB,Bool.and_eq_true] at h
   exact h.1
  ·decide
 ·decide
theorem b1s{ss:List (List Int)}(m:Int):(inoAt ss m).kind=0∨(inoAt ss m).kind=1∨(inoAt ss m).kind=2:=by
 by_cases h0:(inoAt ss m).kind=0
 ·exact Or.inl h0
 ·by_cases h1:(inoAt ss m).kind=1
  ·exact Or.inr (Or.inl h1)
  ·by_cases h2:(inoAt ss m).kind=2
   ·exact Or.inr (Or.inr h2)
   ·have:=a3v (ss:=ss) m
    rw[a7q h0 h1 h2] at this
    cases this
theorem b0o{ss:List (List Int)}{m:Int}(h:(inoAt ss m).kind≠1):(inoAt ss m).size=0∧(inoAt ss m).b=[0,0,0,0]:=by
 have h02:(inoAt ss m).kind=0∨(inoAt ss m).kind=2:=by
  rcases b1s (ss:=ss) m with h0|h1|h2
  ·exact Or.inl h0
  ·exact absurd h1 h
  ·exact Or.inr h2
 have hr:=a3v (ss:=ss) m
 rw[a3i h02,Bool.and_eq_true,beq_iff_eq,beq_iff_eq] at hr
 exact hr
theorem a3j{ss:List (List Int)}(m:Int):0≤(inoAt ss m).size∧(inoAt ss m).size≤128:=by
 by_cases h:(inoAt ss m).kind=1
 ·have hr:=a3v (ss:=ss) m
  rw[a1r h,Bool.and_eq_true,Bool.and_eq_true,decide_eq_true_eq,decide_eq_true_eq] at hr
  exact hr.1
 ·rw[(b0o h).1];decide
theorem b7y{ss:List (List Int)}(m:Int):need (inoAt ss m).size.toNat≤4:=a6c (by have:=(a3j (ss:=ss) m);omega)
theorem a8i{ss:List (List Int)}{m:Int}(h:(inoAt ss m).kind=1){i:Nat}(hi:i<need (inoAt ss m).size.toNat):1≤(inoAt ss m).b.getD i 0∧(inoAt ss m).b.getD i 0≤24∧∀j,j<i→(inoAt ss m).b.getD j 0≠(inoAt ss m).b.getD i 0:=by
 have hr:=a3v (ss:=ss) m
 rw[a1r h,Bool.and_eq_true] at hr
 have h4:=b7y (ss:=ss) m
 have hb:=b1k hr.2 i (by omega)
 rw[a4d hi,Bool.and_eq_true,Bool.and_eq_true,decide_eq_true_eq,decide_eq_true_eq,Bool.not_eq_true'] at hb
 refine⟨hb.1.1,hb.1.2,fun j hj e => ?_⟩
 have hc:((inoAt ss m).b.take i).contains ((inoAt ss m).b.getD i 0)=true:=by
  rw[← e]
  by_cases hl:j<(inoAt ss m).b.length
  ·rw[List.contains_iff_mem,List.mem_take_iff_getElem]
   exact⟨j,by omega,by simp[List.getD,hl]⟩
  ·have h1:(inoAt ss m).b.getD j 0=0:=by simp[List.getD,hl]
   rw[h1] at e
   have:=hb.1.1
   omega
 rw[hc] at hb
 cases hb.2
theorem c2n{ss:List (List Int)}(hs:Secs ss){m:Int}{i:Nat}(hi:¬i<need (inoAt ss m).size.toNat):(inoAt ss m).b.getD i 0=0:=by
 by_cases h:(inoAt ss m).kind=1
 ·by_cases h4:i<4
  ·have hr:=a3v (ss:=ss) m
   rw[a1r h,Bool.and_eq_true] at hr
   have hb:=b1k hr.2 i h4
   rw[a4y hi,beq_iff_eq] at hb
   exact hb
  ·have h5:=a1m hs m
   have:(inoAt ss m).b.length≤i:=by omega
   simp[List.getD,this]
 ·rw[(b0o h).2]
  match i with
  | 0=>rfl
  | 1=>rfl
  | 2=>rfl
  | 3=>rfl
  | i+4=>rfl
end fs
namespace fs
set_option maxRecDepth 100000
open sec
open ly
open lk
open pa
open al
def Blk(ss:List (List Int)):Prop:=∀j k i l:Nat,j<24→k<24→(entAt ss (j:Int)).used=true→(entAt ss (k:Int)).used=true→i<needAt ss j→l<needAt ss k→blkAt ss j i=blkAt ss k l→j=k
def blkLs(ss:List (List Int)):List Nat:=(usedL ss).flatMap fun k=>(List.range (needAt ss k)).map fun i=>(blkAt ss k i).toNat
theorem b6y{ss:List (List Int)}{k i:Nat}(h:i<needAt ss k):(inoAt ss (entAt ss (k:Int)).target).kind=1:=by
 by_cases h1:(inoAt ss (entAt ss (k:Int)).target).kind=1
 ·exact h1
 ·unfold needAt at h
  rw[(b0o h1).1] at h
  have h0:need (Int.toNat 0)=0:=by decide
  omega
theorem b1l{ss:List (List Int)}{k i:Nat}(h:i<needAt ss k):1≤blkAt ss k i∧blkAt ss k i≤24∧∀j,j<i→blkAt ss k j≠blkAt ss k i:=a8i (b6y h) h
theorem blkLs_mem{ss:List (List Int)}{b:Nat}:b∈blkLs ss↔∃k i:Nat,k<24∧(entAt ss (k:Int)).used=true∧i<needAt ss k∧(blkAt ss k i).toNat=b:=by
 simp only[blkLs,List.mem_flatMap,List.mem_map,List.mem_range,usedL_mem]
 constructor
 ·rintro⟨k,⟨h1,h2⟩,i,h3,h4⟩;exact⟨k,i,h1,h2,h3,h4⟩
 ·rintro⟨k,i,h1,h2,h3,h4⟩;exact⟨k,⟨h1,h2⟩,i,h3,h4⟩
theorem b3m{α:Type}(f:α→List Nat):∀(l:List α),l.Nodup→(∀x∈l,(f x).Nodup)→(∀x∈l,∀y∈l,∀z,z∈f x→z∈f y→x=y)→(l.flatMap f).Nodup
 | [],_,_,_=>List.Pairwise.nil
 | a::l,hn,h1,h2=>by
  rw[List.nodup_cons] at hn
  rw[List.flatMap_cons,List.nodup_append]
  refine⟨h1 a (List.mem_cons_self ..),b3m f l hn.2 (fun x hx=>h1 x (List.mem_cons_of_mem _ hx)) (fun x hx y hy=>h2 x (List.mem_cons_of_mem _ hx) y (List.mem_cons_of_mem _ hy)),fun u hu v hv e => ?_⟩
  subst e
  obtain⟨y,hy,hv⟩:=List.mem_flatMap.1 hv
  have:=h2 a (List.mem_cons_self ..) y (List.mem_cons_of_mem _ hy) u hu hv
  exact hn.1 (by rw[this];exact hy)
theorem c1w{ss:List (List Int)}(B:Blk ss):(blkLs ss).Nodup:=by
 refine b3m _ _ (a4h ss) (fun k hk => ?_) (fun j hj k hk z hz1 hz2 => ?_)
 ·refine List.Pairwise.map _ (R:=fun a b=>(a∈List.range (needAt ss k)∧b∈List.range (needAt ss k))∧a<b) (fun a b hab => ?_) ?_
  ·obtain⟨⟨ha,hb⟩,hlt⟩:=hab
   have h1:=b1l (List.mem_range.1 ha)
   have h2:=b1l (List.mem_range.1 hb)
   have h3:=h2.2.2 a hlt
   omega
  ·exact List.Pairwise.and_mem.1 List.pairwise_lt_range |>.imp fun {a b} h=>⟨⟨h.1,h.2.1⟩,h.2.2⟩
 ·obtain⟨j1,j2⟩:=usedL_mem.1 hj
  obtain⟨k1,k2⟩:=usedL_mem.1 hk
  obtain⟨i,hi,e1⟩:=List.mem_map.1 hz1
  obtain⟨l,hl,e2⟩:=List.mem_map.1 hz2
  have hi:=List.mem_range.1 hi
  have hl:=List.mem_range.1 hl
  have h1:=b1l hi
  have h2:=b1l hl
  exact B j k i l j1 k1 j2 k2 hi hl (by omega)
theorem b5d{ss:List (List Int)}(F:Fit ss){b:Nat}(h1:1≤b):usedB ss b=true↔b∈blkLs ss:=by
 have h0:(b == 0)=false:=beq_eq_false_iff_ne.2 (by omega)
 rw[usedB,h0,Bool.false_or,hasU,List.any_eq_true,blkLs_mem]
 constructor
 ·rintro⟨n,hn,h⟩
  rw[Bool.and_eq_true,liveB,Bool.and_eq_true,decide_eq_true_eq,takenB,Bool.or_eq_true,List.contains_iff_mem] at h
  obtain⟨⟨hk,ht⟩,hb⟩:=h
  rcases ht with ht|ht
  ·rw[namedIn,List.any_eq_true] at ht
   obtain⟨k,hk2,hu⟩:=ht
   rw[Bool.and_eq_true,decide_eq_true_eq] at hu
   obtain⟨i,hi,e⟩:=List.getElem_of_mem hb
   have e2:(inoAt ss (n:Int)).b.getD i 0=(b:Int):=by simp[List.getD,hi,e]
   have hin:i<need (inoAt ss (n:Int)).size.toNat:=by
    by_cases hin:i<need (inoAt ss (n:Int)).size.toNat
    ·exact hin
    ·rw[c2n F.secs hin] at e2
     omega
   exact⟨k,i,List.mem_range.1 hk2,hu.1,by rw[needAt,hu.2];exact hin,by rw[blkAt,hu.2,e2];omega⟩
  ·have h2:(n:Int)=0:=of_decide_eq_true ht
   rw[h2,F.root] at hk
   exact absurd hk (by decide)
 ·rintro⟨k,i,hk,hu,hi,e⟩
  have h3:=b1l hi
  have h4:=a1j hu
  have hkd:=b6y hi
  refine⟨(entAt ss (k:Int)).target.toNat,List.mem_range.2 (by omega),?_⟩
  have e2:(((entAt ss (k:Int)).target.toNat:Nat):Int)=(entAt ss (k:Int)).target:=by omega
  rw[Bool.and_eq_true,liveB,Bool.and_eq_true,decide_eq_true_eq,takenB,Bool.or_eq_true,List.contains_iff_mem,e2]
  refine⟨⟨hkd,Or.inl ?_⟩,?_⟩
  ·rw[namedIn,List.any_eq_true]
   exact⟨k,List.mem_range.2 hk,by rw[hu,decide_eq_true rfl];rfl⟩
  ·have hl:i<(inoAt ss (entAt ss (k:Int)).target).b.length:=by
    rw[a1m F.secs]
    have:=b7y (ss:=ss) (entAt ss (k:Int)).target
    unfold needAt at hi
    omega
   have e3:(b:Int)=(inoAt ss (entAt ss (k:Int)).target).b[i]:=by
    have:blkAt ss k i=(inoAt ss (entAt ss (k:Int)).target).b[i]:=by rw[blkAt];simp[List.getD,hl]
    omega
   rw[e3]
   exact List.getElem_mem hl
theorem b1v(p:Nat→Bool):∀k,cntU p k=((List.range k).filter p).length
 | 0=>rfl
 | k+1=>by
  rw[cntU,List.range_succ,List.filter_append,List.length_append,b1v p k]
  cases h:p k<;>simp[h]
theorem b9e{ss:List (List Int)}(F:Fit ss)(B:Blk ss):cntB ss=(blkLs ss).length:=by
 have hlow:∀b,b∈blkLs ss→1≤b∧b≤24:=fun b hb=>by
  obtain⟨k,i,_,_,hi,e⟩:=blkLs_mem.1 hb
  have:=b1l hi
  omega
 rw[cntB,cntBU,b1v]
 refine Nat.le_antisymm ?_ ?_
 ·refine a6l _ _ (· + 1) (List.nodup_range.filter _) (fun x _ y _ e=>by simpa using e) (fun x hx => ?_)
  obtain⟨h1,h2⟩:=List.mem_filter.1 hx
  exact(b5d F (by omega)).1 h2
 ·refine a6l _ _ (· - 1) (c1w B) (fun x hx y hy e => ?_) (fun x hx => ?_)
  ·have:=hlow x hx
   have:=hlow y hy
   have e:x-1=y-1:=e
   omega
  ·have h:=hlow x hx
   refine List.mem_filter.2 ⟨List.mem_range.2 (show x-1<24 by omega),?_⟩
   show usedB ss (x-1+1)=true
   rw[show x-1+1=x by omega]
   exact(b5d F h.1).2 hx
theorem c9d(ss:List (List Int)):(blkLs ss).length=((usedL ss).map (needAt ss)).sum:=by
 rw[blkLs,List.length_flatMap]
 congr 1
 apply List.map_congr_left
 intro k _
 simp
structure Inv (ss:List (List Int)) (t:List Nd):Prop where
 sim:Sim ss t
 blk:Blk ss
 flat:∀i,i<t.length→(t.getD i nd0).dir=true→(t.getD i nd0).data=ByteArray.empty
def tBlocks(t:List Nd):Nat:=(t.map fun a=>need a.data.size).sum
theorem b7w{ss:List (List Int)}{t:List Nd}(I:Inv ss t){i k:Nat}(hi:i<t.length)(hs:Same ss t i k):need (t.getD i nd0).data.size=needAt ss k:=by
 by_cases h:(inoAt ss (entAt ss (k:Int)).target).kind=1
 ·have e:=congrArg List.length (hs.data h)
  rw[a0z,readL,List.length_map,List.length_range] at e
  rw[e,needAt]
 ·have hn:needAt ss k=0:=by rw[needAt,(b0o h).1];rfl
  have h2:(inoAt ss (entAt ss (k:Int)).target).kind=2:=by
   rcases b1s (ss:=ss) (entAt ss (k:Int)).target with h0|h1|h2
   ·obtain⟨j,hj,hs2⟩:=I.sim.back i hi
    have e:j=k∨True:=Or.inr trivial
    by_cases hk:k<24
    ·exact absurd h0 (I.sim.fit.live k hk hs.used)
    ·have hb:(entAt ss (k:Int)).used=false:=by rw[entAt,if_neg (by omega)];rfl
     rw[hs.used] at hb
     cases hb
   ·exact absurd h1 h
   ·exact h2
  have hd:=hs.dir
  rw[decide_eq_true h2] at hd
  rw[I.flat i hi hd,hn]
  rfl
theorem b2z{t:List Nd}(g:Nd→Nat):t.map g=(List.range t.length).map fun i=>g (t.getD i nd0):=by
 apply List.ext_getElem
 ·simp
 ·intro i h1 h2
  have hi:i<t.length:=by simpa using h1
  simp[List.getD,hi]
theorem c0s{ss:List (List Int)}{t:List Nd}(I:Inv ss t):tBlocks t=cntB ss:=by
 classical
 have S:=I.sim
 have hf:∃f:Nat→Nat,∀i,i<t.length→f i<24∧Same ss t i (f i):=⟨fun i=>if h:i<t.length then Classical.choose (S.back i h) else 0,fun i hi=>by simp only[dif_pos hi];exact Classical.choose_spec (S.back i hi)⟩
 obtain⟨f,hf⟩:=hf
 have hperm:((List.range t.length).map f).Perm (usedL ss):=by
  refine(List.perm_ext_iff_of_nodup ?_ (a4h ss)).2 fun k => ?_
  ·refine List.Pairwise.map _ (R:=fun a b=>(a∈List.range t.length∧b∈List.range t.length)∧a≠b) (fun a b hab e => ?_) ?_
   ·obtain⟨⟨ha,hb⟩,hne⟩:=hab
    have ha:=List.mem_range.1 ha
    have hb:=List.mem_range.1 hb
    have h1:=(hf a ha).2
    rw[e] at h1
    exact hne (a8l S ha hb h1 (hf b hb).2)
   ·exact List.Pairwise.and_mem.1 List.nodup_range |>.imp fun {a b} h=>⟨⟨h.1,h.2.1⟩,h.2.2⟩
  ·rw[List.mem_map,usedL_mem]
   constructor
   ·rintro⟨i,hi,rfl⟩
    have:=hf i (List.mem_range.1 hi)
    exact⟨this.1,this.2.used⟩
   ·rintro⟨h1,h2⟩
    obtain⟨i,hi,hs⟩:=S.all k h1 h2
    exact⟨i,List.mem_range.2 hi,a8s S (hf i hi).1 h1 (hf i hi).2 hs⟩
 rw[b9e S.fit I.blk,c9d,tBlocks,b2z]
 have h1:((List.range t.length).map fun i=>need (t.getD i nd0).data.size)=((List.range t.length).map f).map (needAt ss):=by
  rw[List.map_map]
  apply List.map_congr_left
  intro i hi
  have hi:=List.mem_range.1 hi
  exact b7w I hi (hf i hi).2
 rw[h1]
 exact(hperm.map _).sum_nat
end fs
namespace fs
set_option maxRecDepth 100000
open sec
open ly
open lk
open pa
open al
open dsk (St Wr writeR barrier asks)
theorem a1o{x y:Int}(h:x=y):¬(x≠y):=fun hh=>hh h
structure Sound (st:St):Prop where
 bad:st.bad=[]
 len:st.safe.length=65
 top:(nowL st).getD 0 zero32=emptyImg.getD 0 zero32
theorem d2t{st:St}(h:Sound st):(nowL st).length=65:=by rw[nowL,b0n _ _ _ (Nat.le_refl _)];exact h.len
theorem c1l{st:St}(h:Sound st)(x:Wr)(h0:1≤x.pos)(h1:x.pos<65):∃st',writeR st x.pos x.s x.kind x.id=(0,st')∧Sound st'∧nowL st'=(nowL st).set x.pos.toNat x.s:=by
 have ha:asks st=false:=by unfold asks;rw[h.bad];simp
 have hin:0≤x.pos∧x.pos<(st.safe.length:Int):=by rw[h.len];exact⟨by omega,by omega⟩
 have key:over st.safe (st.wait++[⟨x.pos,x.s,x.kind,x.id,st.ep⟩]) (st.wait++[(⟨x.pos,x.s,x.kind,x.id,st.ep⟩:Wr)]).length=(nowL st).set x.pos.toNat x.s:=by
  rw[List.length_append,List.length_singleton,a7x (by simp),wr1]
  have e:over st.safe (st.wait++[⟨x.pos,x.s,x.kind,x.id,st.ep⟩]) st.wait.length=nowL st:=by
   rw[over,nowL,over,List.take_left' rfl,List.take_length]
  rw[e]
  have e2:(st.wait++[(⟨x.pos,x.s,x.kind,x.id,st.ep⟩:Wr)])[st.wait.length]'(by simp)=⟨x.pos,x.s,x.kind,x.id,st.ep⟩:=by simp
  rw[e2,if_pos ⟨by show 0≤x.pos;omega,by rw[d2t h];exact h1⟩]
 refine⟨{ st with asked:=st.asked+1,wait:=st.wait++[⟨x.pos,x.s,x.kind,x.id,st.ep⟩],log:=st.log++[(1,⟨x.pos,x.s,x.kind,x.id,st.ep⟩,[])] },by rw[writeR,if_pos hin,if_neg (by rw[ha];decide)],⟨h.bad,h.len,?_⟩,key⟩
 show (over st.safe (st.wait++[_]) (st.wait++[_]).length).getD 0 zero32=_
 rw[key,← h.top]
 have:x.pos.toNat≠0:=by omega
 simp[List.getD,List.getElem?_set,this]
def setsL(l:List (List Int))(ws:List Wr):List (List Int):=ws.foldl (fun l x=>l.set x.pos.toNat x.s) l
theorem a4l:∀(ws:List Wr) {st:St},Sound st→(∀x∈ws,1≤x.pos∧x.pos<65)→∃st',doR st ws=(0,st')∧Sound st'∧nowL st'=setsL (nowL st) ws
 | [],st,h,_=>⟨st,rfl,h,rfl⟩
 | x::r,st,h,hw=>by
  obtain⟨h0,h1⟩:=hw x (List.mem_cons_self ..)
  obtain⟨st1,e1,s1,n1⟩:=c1l h x h0 h1
  obtain⟨st2,e2,s2,n2⟩:=a4l r s1 fun y hy=>hw y (List.mem_cons_of_mem _ hy)
  refine⟨st2,?_,s2,?_⟩
  ·rw[doR,e1,if_neg (by simp)];exact e2
  ·rw[n2,n1];rfl
theorem b5o{st:St}(h:Sound st):∃st',barrier st=(0,st')∧Sound st'∧nowL st'=nowL st:=by
 have ha:asks st=false:=by unfold asks;rw[h.bad];simp
 exact⟨{ st with asked:=st.asked+1,ep:=st.ep+1,log:=st.log++[(3,dsk.w0,[])] },by rw[barrier,if_neg (by rw[ha];decide)],⟨h.bad,h.len,h.top⟩,rfl⟩
theorem b3s{st:St}(h:Sound st)(x y:Wr)(hx:1≤x.pos∧x.pos<65)(hy:1≤y.pos∧y.pos<65):∃st',moveR st x y=(0,st')∧Sound st'∧nowL st'=((nowL st).set x.pos.toNat x.s).set y.pos.toNat y.s:=by
 obtain⟨s1,e1,g1,n1⟩:=a4l [x] h (fun z hz=>by rw[List.mem_singleton.1 hz];exact hx)
 obtain⟨s2,e2,g2,n2⟩:=b5o g1
 obtain⟨s3,e3,g3,n3⟩:=a4l [y] g2 (fun z hz=>by rw[List.mem_singleton.1 hz];exact hy)
 refine⟨s3,?_,g3,?_⟩
 ·rw[moveR,e1,if_neg (by simp),e2,if_neg (by simp),e3]
 ·rw[n3,n2,n1];rfl
def tPlace(t:List Nd)(s:ByteArray):Int :=
 if errP (bys s)≠0 then errP (bys s)
 else if (tLook t (strOfNums (parL (bys s)))).2≠0 then (tLook t (strOfNums (parL (bys s)))).2
 else if (tLook t (strOfNums (parL (bys s)))).1.dir=false then 6 else 0
structure Spt (ss:List (List Int)) (s:ByteArray) (dn:List (List Int)) (x:List Int) (d:Int):Prop where
 path:s=strOfNums (joinP (dn++[x]))
 names:∀y∈dn++[x],isNm y=true
 few:(dn++[x]).length≤4
 way:lookG ss 0 dn=(d,0)
 dir:(inoAt ss d).kind=2
theorem c6w{l:List Int}(h:errP l=0):∃dn x,splitL l=some (dn++[x])∧parL l=joinP dn∧lastL l=x:=by
 unfold errP at h
 split at h
 ·rename_i n ns hs
  rcases List.eq_nil_or_concat (n::ns) with e|⟨dn,x,e⟩
  ·cases e
  ·rw[List.concat_eq_append] at e
   refine⟨dn,x,by rw[hs,e],?_,?_⟩
   ·unfold parL;rw[hs];simp only;rw[e,List.dropLast_concat]
   ·unfold lastL;rw[hs];simp only;rw[e];simp
 ·cases h
 ·cases h
theorem b2j{ss:List (List Int)}{dn:List (List Int)}(h:∀y∈dn,isNm y=true)(hl:dn.length≤4):lookV ss (bys (strOfNums (joinP dn)))=lookG ss 0 dn:=by
 rw[a0o (a1h h),lookV,a2m h hl]
theorem b3e{t:List Nd}{dn:List (List Int)}(h:∀y∈dn,isNm y=true)(hl:dn.length≤4):tLook t (strOfNums (joinP dn))=tWay t ndRoot [] dn:=by
 rw[tLook,a0o (a1h h),a2m h hl]
theorem b3n{ss:List (List Int)}{t:List Nd}(S:Sim ss t){dn:List (List Int)}(h:∀y∈dn,isNm y=true)(hl:dn.length≤4):(tLook t (strOfNums (joinP dn))).2=(lookG ss 0 dn).2∧((lookG ss 0 dn).2=0→(tLook t (strOfNums (joinP dn))).1.dir=decide ((inoAt ss (lookG ss 0 dn).1).kind=2)):=by
 rw[b3e h hl]
 exact c2s S dn [] ndRoot 0 (by simpa using h) (by simpa using hl) rfl (by rw[S.fit.root];rfl)
theorem a4a{ss:List (List Int)}{t:List Nd}(S:Sim ss t)(s:ByteArray):tPlace t s=(placeV ss s).2 ∧
  ((placeV ss s).2=0→∃dn x d,Spt ss s dn x d∧(placeV ss s).1=⟨d,strOfNums x,(((findO ss d (strOfNums x)).getD 0:Nat):Int),(findO ss d (strOfNums x)).isSome⟩):=by
 by_cases he:errP (bys s)=0
 ·obtain⟨dn,x,hs,hp,hl⟩:=c6w he
  obtain⟨hj,hn,h4,_⟩:=a1u hs
  have hdn:∀y∈dn,isNm y=true:=fun y hy=>hn y (List.mem_append_left _ hy)
  have hd4:dn.length≤4:=by simp at h4;omega
  obtain⟨t1,t2⟩:=b3n S hdn hd4
  have hv:lookV ss (bys (strOfNums (parL (bys s))))=lookG ss 0 dn:=by rw[hp];exact b2j hdn hd4
  unfold tPlace placeV
  have hc:¬(errP (bys s)≠0):=by simp[he]
  rw[hv,hp,hl,if_neg hc,if_neg hc,t1]
  by_cases h2:(lookG ss 0 dn).2=0
  ·have hc2:¬((lookG ss 0 dn).2≠0):=by simp[h2]
   rw[if_neg hc2,if_neg hc2,t2 h2]
   by_cases h3:(inoAt ss (lookG ss 0 dn).1).kind=2
   ·rw[if_neg (by simp[h3]),if_neg (by simp[h3])]
    exact⟨rfl,fun _=>⟨dn,x,(lookG ss 0 dn).1,⟨by rw[hj,a5g],hn,h4,Prod.ext rfl h2,h3⟩,rfl⟩⟩
   ·rw[if_pos (by simp[h3]),if_pos h3]
    exact⟨rfl,fun h=>absurd h (by decide)⟩
  ·rw[if_pos h2,if_pos h2]
   exact⟨rfl,fun h=>absurd h h2⟩
 ·unfold tPlace placeV
  rw[if_pos he,if_pos he]
  exact⟨rfl,fun h=>absurd h he⟩
theorem a5d{ss:List (List Int)}{t:List Nd}(S:Sim ss t){s:ByteArray}{dn:List (List Int)}{x:List Int}{d:Int}(P:Spt ss s dn x d){k:Nat}(h:findO ss d (strOfNums x)=some k) :
  ∃i,tAt t s=some i∧i<t.length∧k<24∧Same ss t i k∧lookG ss 0 (dn++[x])=((entAt ss (k:Int)).target,0):=by
 obtain⟨h1,h2,h3,h4⟩:=(a3r S.fit).1 h
 obtain⟨i,hi,hs⟩:=S.all k h1 h2
 have hw:lookG ss 0 (dn++[x])=((entAt ss (k:Int)).target,0):=by
  rw[a2i,P.way,if_pos rfl,a2x P.dir h];rfl
 obtain⟨p,p0,p4,pn,pp,pl⟩:=hs.way
 have e:=a0r S.fit p.length p (dn++[x]) _ (Nat.le_refl _) pn P.names pl hw
 subst e
 exact⟨i,by rw[P.path];exact(b8s S p0 p4 pn).2 ⟨hi,pp⟩,hi,h1,hs,hw⟩
theorem a8g{ss:List (List Int)}{t:List Nd}(S:Sim ss t){s:ByteArray}{dn:List (List Int)}{x:List Int}{d:Int}(P:Spt ss s dn x d)(h:findO ss d (strOfNums x)=none):tAt t s=none:=by
 cases ht:tAt t s with
 | none=>rfl
 | some i =>
  rw[P.path] at ht
  obtain⟨h1,h2⟩:=(b8s S (by simp) P.few P.names).1 ht
  obtain⟨k,hk24,hs⟩:=S.back i h1
  obtain⟨p,p0,p4,pn,pp,pl⟩:=hs.way
  have e:=a4k pn P.names p4 P.few (pp.symm.trans h2)
  subst e
  rw[a2i,P.way,if_pos rfl,a3w P.dir h] at pl
  exact absurd (show (4:Int)=0 from congrArg Prod.snd pl) (by decide)
theorem b5z{ss ss':List (List Int)}(B:Blk ss)(f:Nat→Nat)(h:∀j:Nat,j<24→(entAt ss' (j:Int)).used=true→0<needAt ss' j→f j<24∧(entAt ss (f j:Int)).used=true∧inoAt ss' (entAt ss' (j:Int)).target=inoAt ss (entAt ss (f j:Int)).target)
  (inj:∀j k:Nat,j<24→k<24→(entAt ss' (j:Int)).used=true→(entAt ss' (k:Int)).used=true→0<needAt ss' j→0<needAt ss' k→f j=f k→j=k):Blk ss':=by
 intro j k i l hj hk uj uk hi hl e
 obtain⟨j1,j2,j3⟩:=h j hj uj (by omega)
 obtain⟨k1,k2,k3⟩:=h k hk uk (by omega)
 have ej:needAt ss' j=needAt ss (f j):=by rw[needAt,needAt,j3]
 have ek:needAt ss' k=needAt ss (f k):=by rw[needAt,needAt,k3]
 refine inj j k hj hk uj uk (by omega) (by omega) (B (f j) (f k) i l j1 k1 j2 k2 (by omega) (by omega) ?_)
 rw[blkAt,blkAt,j3,k3] at e
 exact e
end fs
namespace fs
set_option maxRecDepth 100000
open sec
open ly
open lk
open pa
open al
open dsk (St)
def Both(r:Int×List Nd)(q:Int×St):Prop:=r.1=q.1∧Inv (nowL q.2) r.2∧Sound q.2
theorem c1a(n:Nat)(x:Ino):(wIno (n:Int) x).pos.toNat=1+n:=by show (1+(n:Int)).toNat=1+n;omega
theorem a3l(k:Nat)(x:Ent)(f:Int):(wEnt (k:Int) x f).pos.toNat=17+k:=by show (17+(k:Int)).toNat=17+k;omega
theorem c9m{n:Nat}(h:n<16)(x:Ino):1≤(wIno (n:Int) x).pos∧(wIno (n:Int) x).pos<65:=by show 1≤1+(n:Int)∧1+(n:Int)<65;omega
theorem a3g{k:Nat}(h:k<24)(x:Ent)(f:Int):1≤(wEnt (k:Int) x f).pos∧(wEnt (k:Int) x f).pos<65:=by show 1≤17+(k:Int)∧17+(k:Int)<65;omega
def tMake(t:List Nd)(s:ByteArray)(dir:Bool):Int×List Nd :=
 if tPlace t s≠0 then (tPlace t s,t) else if (tAt t s).isSome=true then (5,t) else if 15≤t.length then (2,t) else (0,t++[⟨s,dir,ByteArray.empty⟩])
theorem c3t{st:St}(hs:Sound st){t:List Nd}(I:Inv (nowL st) t)(s:ByteArray){kind:Int}(hkd:kind=1∨kind=2):Both (tMake t s (decide (kind=2))) (makeV st s kind):=by
 obtain⟨e1,e2⟩:=a4a I.sim s
 unfold tMake makeV
 rw[e1]
 by_cases h0:(placeV (nowL st) s).2=0
 ·rw[if_neg (a1o h0),if_neg (a1o h0)]
  obtain⟨dn,x,d,P,hp⟩:=e2 h0
  rw[hp]
  cases hf:findO (nowL st) d (strOfNums x) with
  | some k =>
   obtain⟨i,hi,_⟩:=a5d I.sim P hf
   rw[hi]
   show Both (5,t) (5,st)
   exact⟨rfl,I,hs⟩
  | none =>
   rw[a8g I.sim P hf]
   show Both (if 15≤t.length then (2,t) else (0,t++[⟨s,decide (kind=2),ByteArray.empty⟩])) (match frI (nowL st),frE (nowL st) with
    | some n,some k=>doR st [wIno (n:Int) ⟨kind,0,[0,0,0,0]⟩,wEnt (k:Int) ⟨true,d,strOfNums x,(n:Int)⟩ d]
    | _,_=>(2,st))
   obtain⟨k,hk⟩:=b9c I.sim.fit
   by_cases hl:15≤t.length
   ·have hn:=(c3h I.sim.fit).2 (by rw[← b7x I.sim];exact hl)
    rw[if_pos hl,hn]
    exact⟨rfl,I,hs⟩
   ·have hn:frI (nowL st)≠none:=fun e=>hl (by rw[b7x I.sim];exact(c3h I.sim.fit).1 e)
    obtain⟨n,hn⟩:=Option.ne_none_iff_exists'.1 hn
    rw[if_neg hl,hn,hk]
    obtain⟨n1,n16,nt⟩:=b0p hn
    obtain⟨k24,ku⟩:=a8d hk
    obtain⟨st',g1,g2,g3⟩:=a4l [wIno (n:Int) ⟨kind,0,[0,0,0,0]⟩,wEnt (k:Int) ⟨true,d,strOfNums x,(n:Int)⟩ d] hs (fun y hy=>by
     rcases List.mem_cons.1 hy with rfl|hy
     ·exact c9m n16 _
     ·rw[List.mem_singleton.1 hy];exact a3g k24 _ _)
    simp only
    rw[g1]
    have g4:nowL st'=madeL (nowL st) n k kind d (strOfNums x):=by
     rw[g3,madeL,setE,setI]
     show ((nowL st).set (wIno (n:Int) _).pos.toNat _).set (wEnt (k:Int) _ d).pos.toNat _=_
     rw[c1a,a3l];rfl
    have hS:=d2u I.sim hn hk hkd P.names P.few P.way P.dir hf
    rw[← P.path] at hS
    have hd16:=b5g P.dir
    have hx:isNm x=true:=P.names x (by simp)
    have hnm:nameB (strOfNums x)=true:=by rw[a5i,a0o (a2n hx)];exact hx
    have hE:=fun j=>b5h (kind:=kind) I.sim.fit.len n16 n1 k24 hd16 hnm j
    have hI:=fun j=>b6a (d:=d) (nm:=strOfNums x) I.sim.fit.len n16 k24 hkd j
    refine⟨rfl,?_,g2⟩
    show Inv (nowL st') _
    rw[g4]
    have hold:∀j:Nat,j<24→(entAt (madeL (nowL st) n k kind d (strOfNums x)) (j:Int)).used=true→0<needAt (madeL (nowL st) n k kind d (strOfNums x)) j→j≠k:=fun j hj hu hpos e=>by
     subst e
     rw[needAt,hE,if_pos rfl] at hpos
     simp only at hpos
     rw[hI,if_pos rfl] at hpos
     have h0:need (Int.toNat 0)=0:=by decide
     have h1:0<need (Int.toNat 0):=hpos
     omega
    refine⟨hS,b5z I.blk id (fun j hj hu hpos => ?_) (fun j k _ _ _ _ _ _ e=>e),fun i hi hd => ?_⟩
    ·have hjk:=hold j hj hu hpos
     rw[hE,if_neg (by omega)] at hu ⊢
     exact⟨hj,hu,by rw[hI,if_neg (nt j hj hu)];rfl⟩
    ·rw[List.length_append] at hi
     by_cases ei:i<t.length
     ·rw[a4o ei] at hd ⊢
      exact I.flat i ei hd
     ·obtain rfl:i=t.length:=by simp at hi;omega
      rw[a7b]
 ·rw[if_pos h0,if_pos h0]
  exact⟨rfl,I,hs⟩
def tFull(t:List Nd)(s:ByteArray)(i:Nat):Bool:=(List.range t.length).any fun j=>decide (j≠i) && underB (bys (t.getD j nd0).path) (bys s)
def tUnlink(t:List Nd)(s:ByteArray):Int×List Nd :=
 if tPlace t s≠0 then (tPlace t s,t) else match tAt t s with
  | none=>(4,t)
  | some i=>if tFull t s i=true then (7,t) else (0,t.eraseIdx i)
theorem a9s{ss:List (List Int)}{t:List Nd}(S:Sim ss t){j:Nat}(hj:j<24)(hu:(entAt ss (j:Int)).used=true):∃p,(∀y∈p,isNm y=true)∧(p++[bys (entAt ss (j:Int)).name]).length≤4∧lookG ss 0 p=((entAt ss (j:Int)).parent,0)∧(inoAt ss (entAt ss (j:Int)).parent).kind=2:=by
 obtain⟨i,hi,hs⟩:=S.all j hj hu
 obtain⟨p,p0,p4,pn,pp,pl⟩:=hs.way
 rcases List.eq_nil_or_concat p with rfl|⟨p',x,rfl⟩
 ·exact absurd rfl p0
 ·rw[List.concat_eq_append] at *
  obtain⟨l,hl,hlu,hpp,hd,hn,ht⟩:=a2p S.fit pl
  obtain rfl:=S.fit.tgt l j hl hj hlu hu ht
  exact⟨p',fun y hy=>pn y (List.mem_append_left _ hy),by simp at p4 ⊢;omega,hpp,hd⟩
theorem c7r{ss:List (List Int)}{t:List Nd}(S:Sim ss t){s:ByteArray}{fn:List (List Int)}(f0:fn≠[])(f4:fn.length≤4)(fN:∀y∈fn,isNm y=true)(hp:s=strOfNums (joinP fn)){i k:Nat}(hi:i<t.length)(hk:k<24)(hs:Same ss t i k)(hw:lookG ss 0 fn=((entAt ss (k:Int)).target,0)) :
  tFull t s i=decide ((inoAt ss (entAt ss (k:Int)).target).kind=2∧fullB ss (entAt ss (k:Int)).target=true):=by
 rw[eq_comm,Bool.eq_iff_iff,decide_eq_true_eq,tFull,List.any_eq_true,fullB,List.any_eq_true]
 constructor
 ·rintro⟨h2,j,hj,hin⟩
  have hj:=List.mem_range.1 hj
  rw[atB,Bool.and_eq_true,decide_eq_true_eq,standB,Bool.and_eq_true] at hin
  obtain⟨⟨hu,_⟩,hpar⟩:=hin
  obtain⟨a,ha,hsa⟩:=S.all j hj hu
  obtain⟨p,pn,p4,pl,pd⟩:=a9s S hj hu
  rw[hpar] at pl
  have ep:=a0r S.fit fn.length fn p _ (Nat.le_refl _) fN pn hw pl
  subst ep
  obtain⟨q,q0,q4,qn,qp,ql⟩:=hsa.way
  have hnm:isNm (bys (entAt ss (j:Int)).name)=true:=by rw[← a5i];exact(a1j hu).2.2.2.2
  have hall:∀y∈fn++[bys (entAt ss (j:Int)).name],isNm y=true:=fun y hy=>by
   rcases List.mem_append.1 hy with hy|hy
   ·exact fN y hy
   ·rw[List.mem_singleton.1 hy];exact hnm
  have hw2:=a4e S.fit (p:=fn) (x:=bys (entAt ss (j:Int)).name) (k:=j) hj hu (by rw[hpar];exact hw) (by rw[hpar];exact h2) (by rw[a5g])
  have eq:=a0r S.fit q.length q _ _ (Nat.le_refl _) qn hall ql hw2
  subst eq
  refine⟨a,List.mem_range.2 ha,?_⟩
  rw[Bool.and_eq_true,decide_eq_true_eq]
  refine⟨fun e => ?_,?_⟩
  ·subst e
   obtain⟨q,q0,q4',qn',qp',ql'⟩:=hs.way
   have e3:=a0r S.fit q.length q fn _ (Nat.le_refl _) qn' fN ql' hw
   subst e3
   have e4:=a4k qn hall q4 q4 rfl
   have e5:=a4k qn' hall q4' q4 (qp'.symm.trans qp)
   have:=congrArg List.length e5
   simp at this
  ·rw[qp,hp,a6h hall fN q4 f4,decide_eq_true_eq]
   exact List.prefix_append _ _
 ·rintro⟨j,hj,h⟩
  have hj:=List.mem_range.1 hj
  rw[Bool.and_eq_true,decide_eq_true_eq] at h
  obtain⟨hji,hun⟩:=h
  obtain⟨l,hl,hsl⟩:=S.back j hj
  obtain⟨q,q0,q4,qn,qp,ql⟩:=hsl.way
  rw[qp,hp,a6h qn fN q4 f4,decide_eq_true_eq] at hun
  obtain⟨r,rfl⟩:=hun
  rw[a2i,hw,if_pos rfl] at ql
  cases r with
  | nil =>
   rw[List.append_nil] at qp
   obtain⟨q,q0',q4',qn',qp',ql'⟩:=hs.way
   have e3:=a0r S.fit q.length q fn _ (Nat.le_refl _) qn' fN ql' hw
   subst e3
   exact absurd (S.once j i hj hi (qp.trans qp'.symm)) hji
  | cons y r =>
   by_cases h2:(inoAt ss (entAt ss (k:Int)).target).kind=2
   ·refine⟨h2,?_⟩
    cases hf:findO ss (entAt ss (k:Int)).target (strOfNums y) with
    | none =>
     rw[a3w h2 hf] at ql
     exact absurd (show (4:Int)=0 from congrArg Prod.snd ql) (by decide)
    | some m =>
     obtain⟨m1,m2,m3,m4⟩:=(a3r S.fit).1 hf
     refine⟨m,List.mem_range.2 m1,?_⟩
     rw[atB,Bool.and_eq_true,decide_eq_true_eq,standB,Bool.and_eq_true]
     exact⟨⟨m2,by have:=S.fit.live m m1 m2;simp[this]⟩,m3⟩
   ·rw[a3x h2] at ql
    exact absurd (show (6:Int)=0 from congrArg Prod.snd ql) (by decide)
theorem b1o{ss:List (List Int)}{t:List Nd}(I:Inv ss t){i k:Nat}(hi:i<t.length)(hk:k<24)(hs:Same ss t i k)(hno:¬((inoAt ss (entAt ss (k:Int)).target).kind=2∧fullB ss (entAt ss (k:Int)).target=true)):Inv (setE ss k ent0) (t.eraseIdx i):=by
 have S:=I.sim
 have hlen:(t.eraseIdx i).length=t.length-1:=by rw[List.length_eraseIdx,if_pos hi]
 have hS:=c0k S hi hk hs (fun j hj hu e=>by
  obtain⟨p,pn,p4,pl,pd⟩:=a9s S hj hu
  rw[e] at pd
  refine hno ⟨pd,?_⟩
  rw[fullB,List.any_eq_true]
  refine⟨j,List.mem_range.2 hj,?_⟩
  rw[atB,Bool.and_eq_true,decide_eq_true_eq,standB,Bool.and_eq_true]
  exact⟨⟨hu,by have:=S.fit.live j hj hu;simp[this]⟩,e⟩)
 have hE:=fun j=>a4g S.fit.len hk j
 have hI:=fun j=>a1e S.fit.len hk ent0 j
 refine⟨hS,b5z I.blk id (fun j hj hu hpos => ?_) (fun j k _ _ _ _ _ _ e=>e),fun a ha hd => ?_⟩
 ·have hjk:¬(j:Int)=(k:Int):=fun e=>by
   rw[hE,if_pos e] at hu
   cases hu
  rw[hE,if_neg hjk] at hu ⊢
  exact⟨hj,hu,by rw[hI];rfl⟩
 ·rw[hlen] at ha
  rw[getD_drop] at hd ⊢
  exact I.flat _ (b4e hi ha) hd
theorem c6c{st:St}(hs:Sound st){t:List Nd}(I:Inv (nowL st) t)(s:ByteArray):Both (tUnlink t s) (unlinkV st s):=by
 obtain⟨e1,e2⟩:=a4a I.sim s
 unfold tUnlink unlinkV
 rw[e1]
 by_cases h0:(placeV (nowL st) s).2=0
 ·rw[if_neg (a1o h0),if_neg (a1o h0)]
  obtain⟨dn,x,d,P,hp⟩:=e2 h0
  rw[hp]
  cases hf:findO (nowL st) d (strOfNums x) with
  | none =>
   rw[a8g I.sim P hf]
   show Both (4,t) (4,st)
   exact⟨rfl,I,hs⟩
  | some k =>
   obtain⟨i,hti,hi,hk,hsm,hw⟩:=a5d I.sim P hf
   rw[hti]
   have hfull:=c7r I.sim (by simp) P.few P.names P.path hi hk hsm hw
   show Both (if tFull t s i=true then (7,t) else (0,t.eraseIdx i)) (if (inoAt (nowL st) (entAt (nowL st) (k:Int)).target).kind=2∧fullB (nowL st) (entAt (nowL st) (k:Int)).target=true then (7,st) else doR st [wEnt (k:Int) ent0 d])
   rw[hfull]
   by_cases hb:(inoAt (nowL st) (entAt (nowL st) (k:Int)).target).kind=2∧fullB (nowL st) (entAt (nowL st) (k:Int)).target=true
   ·rw[if_pos (decide_eq_true hb),if_pos hb]
    exact⟨rfl,I,hs⟩
   ·rw[if_neg (by rw[decide_eq_false hb];decide),if_neg hb]
    obtain⟨st',g1,g2,g3⟩:=a4l [wEnt (k:Int) ent0 d] hs (fun y hy=>by rw[List.mem_singleton.1 hy];exact a3g hk _ _)
    rw[g1]
    have g4:nowL st'=setE (nowL st) k ent0:=by
     rw[g3,setE]
     show (nowL st).set (wEnt (k:Int) _ d).pos.toNat _=_
     rw[a3l];rfl
    refine⟨rfl,?_,g2⟩
    show Inv (nowL st') _
    rw[g4]
    exact b1o I hi hk hsm hb
 ·rw[if_pos h0,if_pos h0]
  exact⟨rfl,I,hs⟩
end fs
namespace fs
set_option maxRecDepth 100000
open sec
open ly
open lk
open pa
open al
open dsk (St)
theorem b1p{ss:List (List Int)}{t:List Nd}{i a k:Nat}{fn dn:List (List Int)}{x:List Int}{d:Int}(I:Inv ss t)(M:Mv ss t i a k fn dn x d):Inv (movedL ss a k (mvX ss a d x)) (t.map (mvN (strOfNums (joinP fn)) (strOfNums (joinP (dn++[x]))))):=by
 have hI:=fun j=>a5c M.sim.fit.len M.ha M.hk (mvX ss a d x) j
 refine⟨M.sims,b5z I.blk (fun j=>if j=k then a else j) (fun j hj hu hpos => ?_) (fun j l hj hl hu hv _ _ e => ?_),fun b hb hd => ?_⟩
 ·rcases M.used hu with⟨e,g⟩|⟨e,e',g,u⟩
  ·simp only[if_pos e]
   exact⟨M.ha,M.same.used,by rw[g,hI];rfl⟩
  ·simp only[if_neg e]
   exact⟨hj,u,by rw[g,hI]⟩
 ·have e:(if j=k then a else j)=(if l=k then a else l):=e
  rcases M.used hu with⟨e1,_⟩|⟨e1,e1',_,_⟩<;>rcases M.used hv with⟨e2,_⟩|⟨e2,e2',_,_⟩
  ·rw[e1,e2]
  ·rw[if_pos e1,if_neg e2] at e;exact absurd e.symm e2'
  ·rw[if_neg e1,if_pos e2] at e;exact absurd e e1'
  ·rw[if_neg e1,if_neg e2] at e;exact e
 ·rw[List.length_map] at hb
  rw[getD_map _ hb,(b5f _ _ _).1] at hd
  rw[getD_map _ hb,(b5f _ _ _).2]
  exact I.flat b hb hd
def tRename(t:List Nd)(s u:ByteArray):Int×List Nd :=
 if errP (bys s)≠0 then (errP (bys s),t)
 else if errP (bys u)≠0 then (errP (bys u),t)
 else if tPlace t s≠0 then (tPlace t s,t)
 else match tAt t s with
  | none=>(4,t)
  | some i =>
   if tPlace t u≠0 then (tPlace t u,t)
   else if s=u then (0,t)
   else if (t.getD i nd0).dir=true∧deeperB s u=true then (1,t)
   else match tAt t u with
    | some j=>if (t.getD i nd0).dir=true∨(t.getD j nd0).dir=true then (5,t) else (0,(t.eraseIdx j).map (mvN s u))
    | none=>(0,t.map (mvN s u))
theorem c4p{p q:List (List Int)}(hp:∀y∈p,isNm y=true)(hq:∀y∈q,isNm y=true)(lp:p.length≤4)(lq:q.length≤4):deeperB (strOfNums (joinP p)) (strOfNums (joinP q))=(decide (p <+: q) || decide (p.length<q.length)):=by
 rw[deeperB,a6h hq hp lq lp,a0o (a1h hp),a0o (a1h hq),nms,nms,a2m hp lp,a2m hq lq]
 rfl
theorem c4l{st:St}(hs:Sound st){t:List Nd}(I:Inv (nowL st) t)(s u:ByteArray):Both (tRename t s u) (renameV st s u):=by
 obtain⟨e1,e2⟩:=a4a I.sim s
 obtain⟨e3,e4⟩:=a4a I.sim u
 unfold tRename renameV
 rw[e1,e3]
 simp only
 by_cases p1:errP (bys s)=0
 case neg=>rw[if_pos p1,if_pos p1];exact⟨rfl,I,hs⟩
 rw[if_neg (a1o p1),if_neg (a1o p1)]
 by_cases p2:errP (bys u)=0
 case neg=>rw[if_pos p2,if_pos p2];exact⟨rfl,I,hs⟩
 rw[if_neg (a1o p2),if_neg (a1o p2)]
 by_cases h0:(placeV (nowL st) s).2=0
 case neg=>rw[if_pos h0,if_pos h0];exact⟨rfl,I,hs⟩
 rw[if_neg (a1o h0),if_neg (a1o h0)]
 obtain⟨dn,x,d,P,hp⟩:=e2 h0
 rw[hp]
 cases hf:findO (nowL st) d (strOfNums x) with
 | none =>
  rw[a8g I.sim P hf]
  show Both (4,t) (4,st)
  exact⟨rfl,I,hs⟩
 | some a =>
  obtain⟨i,hti,hi,ha,hsm,hw⟩:=a5d I.sim P hf
  rw[hti]
  simp only[Option.getD_some,Option.isSome_some,Bool.true_eq_false,if_false]
  by_cases h1:(placeV (nowL st) u).2=0
  case neg=>rw[if_pos h1,if_pos h1];exact⟨rfl,I,hs⟩
  rw[if_neg (a1o h1),if_neg (a1o h1)]
  obtain⟨dm,y,c,Q,hq⟩:=e4 h1
  rw[hq]
  simp only
  have hdir:=hsm.dir
  have hdp:deeperB s u=(decide (dn++[x] <+: dm++[y]) || decide ((dn++[x]).length<(dm++[y]).length)):=by rw[P.path,Q.path,c4p P.names Q.names P.few Q.few]
  have hsu:s=u↔dn++[x]=dm++[y]:=by
   constructor
   ·intro e
    exact a4k P.names Q.names P.few Q.few (by rw[← P.path,← Q.path,e])
   ·intro e
    rw[P.path,Q.path,e]
  have hself:(s=u∨((findO (nowL st) c (strOfNums y)).isSome=true∧(((findO (nowL st) c (strOfNums y)).getD 0:Nat):Int)=(a:Int)))↔s=u:=by
   constructor
   ·rintro(h|⟨h,h2⟩)
    ·exact h
    ·cases hg:findO (nowL st) c (strOfNums y) with
     | none=>rw[hg] at h;cases h
     | some b =>
      rw[hg] at h2
      simp only[Option.getD_some] at h2
      have hb:b=a:=by omega
      subst hb
      obtain⟨_,_,_,_,_,hw2⟩:=a5d I.sim Q hg
      exact hsu.2 (a0r I.sim.fit _ _ _ _ (Nat.le_refl _) P.names Q.names hw hw2)
   ·exact Or.inl
  by_cases hsu2:s=u
  ·rw[if_pos hsu2,if_pos (hself.2 hsu2)];exact⟨rfl,I,hs⟩
  ·rw[if_neg hsu2,if_neg (fun h=>hsu2 (hself.1 h))]
   rw[hdir]
   by_cases hdd:(inoAt (nowL st) (entAt (nowL st) (a:Int)).target).kind=2∧deeperB s u=true
   ·rw[if_pos (by rw[decide_eq_true_eq];exact hdd),if_pos (by rw[decide_eq_true_eq];exact hdd)]
    exact⟨rfl,I,hs⟩
   ·rw[if_neg (by rw[decide_eq_true_eq];exact hdd),if_neg (by rw[decide_eq_true_eq];exact hdd)]
    have hdeep:(inoAt (nowL st) (entAt (nowL st) (a:Int)).target).kind=2→¬(dn++[x]) <+: dm∧(dm++[y]).length≤(dn++[x]).length:=fun h2=>by
     have h3:¬deeperB s u=true:=fun h=>hdd ⟨h2,h⟩
     rw[hdp,Bool.or_eq_true,decide_eq_true_eq,decide_eq_true_eq] at h3
     exact⟨fun h=>h3 (Or.inl (h.trans (List.prefix_append _ _))),by omega⟩
    cases hg:findO (nowL st) c (strOfNums y) with
    | some b =>
     obtain⟨j,htj,hj,hb,hsj,hwj⟩:=a5d I.sim Q hg
     rw[htj]
     simp only[Option.getD_some,Option.isSome_some,decide_eq_true_eq,if_true,hsj.dir]
     by_cases hk2:(inoAt (nowL st) (entAt (nowL st) (a:Int)).target).kind=2∨(inoAt (nowL st) (entAt (nowL st) (b:Int)).target).kind=2
     ·rw[if_pos hk2,if_pos hk2];exact⟨rfl,I,hs⟩
     ·rw[if_neg hk2,if_neg hk2]
      have hab:a≠b:=fun e=>by
       subst e
       exact hsu2 (hsu.2 (a0r I.sim.fit _ _ _ _ (Nat.le_refl _) P.names Q.names hw hwj))
      obtain⟨st',g1,g2,g3⟩:=b3s hs (wEnt (b:Int) ⟨true,c,strOfNums y,(entAt (nowL st) (a:Int)).target⟩ c) (wEnt (a:Int) ent0 d) (a3g hb _ _) (a3g ha _ _)
      rw[g1]
      have hI1:=b1o I hj hb hsj (fun h=>hk2 (Or.inr h.1))
      have hE1:=fun z=>a4g I.sim.fit.len hb z
      have hea:entAt (setE (nowL st) b ent0) (a:Int)=entAt (nowL st) (a:Int):=by rw[hE1,if_neg (by omega)]
      have hno1:∀z:Nat,z<24→(entAt (nowL st) (z:Int)).used=true→(entAt (nowL st) (z:Int)).parent≠(entAt (nowL st) (b:Int)).target:=fun z hz hzu e=>by
       obtain⟨_,_,_,_,pd⟩:=a9s I.sim hz hzu
       rw[e] at pd
       exact hk2 (Or.inr pd)
      have hij:i≠j:=fun e=>by
       subst e
       exact hab (a8s I.sim ha hb hsm hsj)
      obtain⟨i',hi',hup⟩:=d5f hj hi hij
      have hlen:(t.eraseIdx j).length=t.length-1:=by rw[List.length_eraseIdx,if_pos hj]
      have hsm':Same (setE (nowL st) b ent0) (t.eraseIdx j) i' a:=by
       obtain⟨z,hz,hsz⟩:=hI1.sim.all a ha (by rw[hea];exact hsm.used)
       obtain⟨p,p0,p4,pn,pp,pl⟩:=hsz.way
       rw[hea] at pl
       have hwl:=b0g I.sim.fit hb hsj.used hno1 _ _ _ (Nat.le_refl _) hw (fun e=>hab (I.sim.fit.tgt a b ha hb hsm.used hsj.used e))
       have ep:=a0r hI1.sim.fit _ _ _ _ (Nat.le_refl _) pn P.names pl hwl
       subst ep
       have:z=i':=by
        rw[hlen] at hz
        rw[getD_drop] at pp
        obtain⟨q,q0,q4,qn,qp,ql⟩:=hsm.way
        have e5:=a0r I.sim.fit _ _ _ _ (Nat.le_refl _) qn P.names ql hw
        subst e5
        have:=I.sim.once (upI j z) i (b4e hj hz) hi (pp.trans qp.symm)
        exact c7t (this.trans hup.symm)
       subst this
       exact hsz
      have M:Mv (setE (nowL st) b ent0) (t.eraseIdx j) i' a b (dn++[x]) dm y c:={
       sim:=hI1.sim
       hi:=by rw[hlen];exact hi'
       ha:=ha
       hk:=hb
       same:=hsm'
       free:=Or.inr (by rw[hE1,if_pos rfl];rfl)
       fn4:=P.few
       fnN:=P.names
       fnW:=by rw[hea];exact b0g I.sim.fit hb hsj.used hno1 _ _ _ (Nat.le_refl _) hw (fun e=>hab (I.sim.fit.tgt a b ha hb hsm.used hsj.used e))
       dnN:=Q.names
       dn4:=Q.few
       dnW:=b0g I.sim.fit hb hsj.used hno1 _ _ _ (Nat.le_refl _) Q.way (fun e=>hk2 (Or.inr (by rw[← e];exact Q.dir)))
       dk:=by rw[a1e I.sim.fit.len hb];exact Q.dir
       no:=(a6m hI1.sim.fit).2 fun z hz h1 h2 h3=>by
        by_cases ez:z=b
        ·subst ez
         rw[hE1,if_pos rfl] at h1
         cases h1
        ·rw[hE1,if_neg (by omega)] at h1 h2 h3
         have:=(a3r I.sim.fit).2 ⟨hz,h1,h2,h3⟩
         rw[hg] at this
         exact ez (Option.some.inj this).symm
       deep:=fun h2=>absurd (by rw[hea,a1e I.sim.fit.len hb] at h2;exact h2) (fun h=>hk2 (Or.inl h)) }
      have g4:nowL st'=movedL (setE (nowL st) b ent0) a b (mvX (setE (nowL st) b ent0) a c y):=by
       rw[g3,movedL,if_neg (fun e=>hab e.symm),mvX,hea,a3l,a3l]
       unfold setE
       rw[List.set_set]
       rfl
      have hI2:=b1p hI1 M
      rw[← P.path,← Q.path] at hI2
      refine⟨rfl,?_,g2⟩
      show Inv (nowL st') _
      rw[g4]
      exact hI2
    | none =>
     rw[a8g I.sim Q hg]
     simp only[Option.isSome_none,Bool.false_eq_true,if_false]
     obtain⟨k,hk⟩:=b9c I.sim.fit
     obtain⟨k24,ku⟩:=a8d hk
     have mk:∀k,k<24→(k=a∨(entAt (nowL st) (k:Int)).used=false)→Mv (nowL st) t i a k (dn++[x]) dm y c:=fun k hk hfr=>{
      sim:=I.sim
      hi:=hi
      ha:=ha
      hk:=hk
      same:=hsm
      free:=hfr
      fn4:=P.few
      fnN:=P.names
      fnW:=hw
      dnN:=Q.names
      dn4:=Q.few
      dnW:=Q.way
      dk:=Q.dir
      no:=hg
      deep:=hdeep }
     by_cases hdc:d=c
     ·rw[if_pos hdc]
      obtain⟨st',g1,g2,g3⟩:=a4l [wEnt (a:Int) ⟨true,c,strOfNums y,(entAt (nowL st) (a:Int)).target⟩ c] hs (fun z hz=>by rw[List.mem_singleton.1 hz];exact a3g ha _ _)
      rw[g1]
      have hI2:=b1p I (mk a ha (Or.inl rfl))
      rw[← P.path,← Q.path] at hI2
      refine⟨rfl,?_,g2⟩
      show Inv (nowL st') _
      have g4:nowL st'=movedL (nowL st) a a (mvX (nowL st) a c y):=by
       rw[g3,movedL,if_pos rfl,mvX,setE]
       show (nowL st).set (wEnt (a:Int) _ c).pos.toNat _=_
       rw[a3l];rfl
      rw[g4]
      exact hI2
     ·rw[if_neg hdc,hk]
      simp only
      have hka:k≠a:=fun e=>by
       subst e
       rw[hsm.used] at ku;cases ku
      obtain⟨st',g1,g2,g3⟩:=b3s hs (wEnt (k:Int) ⟨true,c,strOfNums y,(entAt (nowL st) (a:Int)).target⟩ c) (wEnt (a:Int) ent0 d) (a3g k24 _ _) (a3g ha _ _)
      rw[g1]
      have hI2:=b1p I (mk k k24 (Or.inr ku))
      rw[← P.path,← Q.path] at hI2
      refine⟨rfl,?_,g2⟩
      show Inv (nowL st') _
      have g4:nowL st'=movedL (nowL st) a k (mvX (nowL st) a c y):=by
       rw[g3,movedL,if_neg hka,mvX,a3l,a3l]
       rfl
      rw[g4]
      exact hI2
end fs
namespace fs
set_option maxRecDepth 100000
open sec
open ly
open lk
open pa
open al
open dsk (St)
def tRead(t:List Nd)(s:ByteArray):ByteArray×Int :=
 if (tLook t s).2≠0 then (ByteArray.empty,(tLook t s).2) else if (tLook t s).1.dir=true then (ByteArray.empty,6) else ((tLook t s).1.data,0)
theorem d4o(t:List Nd):∀(r gone:List (List Int)) (now:Nd),r≠[]→(tWay t now gone r).2=0→∃i,tAt t (strOfNums (joinP (gone++r)))=some i∧(tWay t now gone r).1=t.getD i nd0:=by
 intro r
 induction r with
 | nil=>intro gone now h;exact absurd rfl h
 | cons x r ih =>
  intro gone now _ h
  rw[tWay] at h ⊢
  split
  ·rename_i hd
   rw[if_pos hd] at h
   exact absurd h (by decide)
  ·rename_i hd
   rw[if_neg hd] at h
   split
   ·rename_i hn
    rw[hn] at h
    exact absurd (show (4:Int)=0 from h) (by decide)
   ·rename_i k hk
    rw[hk] at h
    simp only at h
    by_cases hr:r=[]
    ·subst hr
     exact⟨k,hk,rfl⟩
    ·obtain⟨i,h1,h2⟩:=ih (gone++[x]) (t.getD k nd0) hr h
     exact⟨i,by rw[← h1,List.append_assoc];rfl,h2⟩
structure FSpt (ss:List (List Int)) (t:List Nd) (s:ByteArray) (fn:List (List Int)) (i k:Nat):Prop where
 path:s=strOfNums (joinP fn)
 names:∀y∈fn,isNm y=true
 few:fn.length≤4
 at_:tAt t s=some i
 hi:i<t.length
 hk:k<24
 same:Same ss t i k
 way:lookG ss 0 fn=((entAt ss (k:Int)).target,0)
 file:fileV ss s=((entAt ss (k:Int)).target,inoAt ss (entAt ss (k:Int)).target,0)
 kind:(inoAt ss (entAt ss (k:Int)).target).kind=1
 read:tRead t s=((t.getD i nd0).data,0)
theorem c6x{ss:List (List Int)}(F:Fit ss){p:List (List Int)}{m:Int}(h:lookG ss 0 p=(m,0)):(inoAt ss m).kind=1∨(inoAt ss m).kind=2:=by
 rcases b6f F h with rfl|⟨k,hk,hu,rfl⟩
 ·exact Or.inr F.root
 ·rcases b1s (ss:=ss) (entAt ss (k:Int)).target with h0|h1
  ·exact absurd h0 (F.live k hk hu)
  ·exact h1
theorem d0e{ss:List (List Int)}{s:ByteArray}(h:(lookV ss (bys s)).2≠0):fileV ss s=(0,ino0,(lookV ss (bys s)).2):=by rw[fileV,if_pos h]
theorem b9k{ss:List (List Int)}{s:ByteArray}(h:(lookV ss (bys s)).2=0)(hk:(inoAt ss (lookV ss (bys s)).1).kind≠1):fileV ss s=(0,ino0,6):=by rw[fileV,if_neg (a1o h),if_pos hk]
theorem b4f{ss:List (List Int)}{s:ByteArray}(h:(lookV ss (bys s)).2=0)(hk:(inoAt ss (lookV ss (bys s)).1).kind=1):fileV ss s=((lookV ss (bys s)).1,inoAt ss (lookV ss (bys s)).1,0):=by rw[fileV,if_neg (a1o h),if_neg (a1o hk)]
theorem c6s{t:List Nd}{s:ByteArray}(h:(tLook t s).2≠0):tRead t s=(ByteArray.empty,(tLook t s).2):=by rw[tRead,if_pos h]
theorem c8z{t:List Nd}{s:ByteArray}(h:(tLook t s).2=0)(hd:(tLook t s).1.dir=true):tRead t s=(ByteArray.empty,6):=by rw[tRead,if_neg (a1o h),if_pos hd]
theorem c4z{t:List Nd}{s:ByteArray}(h:(tLook t s).2=0)(hd:(tLook t s).1.dir=false):tRead t s=((tLook t s).1.data,0):=by rw[tRead,if_neg (a1o h),if_neg (by rw[hd];decide)]
theorem b0x{ss:List (List Int)}{t:List Nd}(S:Sim ss t)(s:ByteArray):(tRead t s).2=(fileV ss s).2.2∧((fileV ss s).2.2=0→∃fn i k,FSpt ss t s fn i k):=by
 have hl:=c8p S s
 by_cases h0:(lookV ss (bys s)).2=0
 ·have htl:(tLook t s).2=0:=by rw[hl,h0]
  have hv:∃ns,splitL (bys s)=some ns∧lookV ss (bys s)=lookG ss 0 ns:=by
   unfold lookV at h0 ⊢
   split at h0
   ·exact absurd h0 (by decide)
   ·rename_i ns hs
    exact⟨ns,hs,rfl⟩
  obtain⟨ns,hs,hv⟩:=hv
  obtain⟨hj,hn,h4,_⟩:=a1u hs
  have hp:s=strOfNums (joinP ns):=by rw[hj,a5g]
  have hw:lookG ss 0 ns=((lookV ss (bys s)).1,0):=by rw[← hv];exact Prod.ext rfl h0
  have hd:(tLook t s).1.dir=decide ((inoAt ss (lookV ss (bys s)).1).kind=2):=by
   obtain⟨_,t2⟩:=b3n S hn h4
   rw[← hp] at t2
   have:=t2 (by rw[hw])
   rw[this,hw]
  by_cases h2:(inoAt ss (lookV ss (bys s)).1).kind=2
  ·rw[c8z htl (by rw[hd,decide_eq_true h2]),b9k h0 (by rw[h2];decide)]
   exact⟨rfl,fun h=>absurd (show (6:Int)=0 from h) (by decide)⟩
  ·have h1:(inoAt ss (lookV ss (bys s)).1).kind=1:=by
    rcases c6x S.fit hw with h|h
    ·exact h
    ·exact absurd h h2
   have htr:=c4z htl (by rw[hd,decide_eq_false h2])
   have hfv:=b4f h0 h1
   refine⟨by rw[htr,hfv],fun _ => ?_⟩
   have hne:ns≠[]:=fun e=>by
    rw[e] at hw
    have:(0:Int)=(lookV ss (bys s)).1:=congrArg Prod.fst hw
    rw[← this,S.fit.root] at h1
    exact absurd h1 (by decide)
   have htw:tLook t s=tWay t ndRoot [] ns:=by
    have:=b3e (t:=t) hn h4
    rwa [← hp] at this
   obtain⟨i,hi,hnode⟩:=d4o t ns [] ndRoot hne (by rw[← htw];exact htl)
   rw[List.nil_append,← hp] at hi
   rw[← htw] at hnode
   rcases b6f S.fit hw with hm|⟨k,hk,hu,hm⟩
   ·rw[hm,S.fit.root] at h1
    exact absurd h1 (by decide)
   ·obtain⟨j,hj2,hsm⟩:=S.all k hk hu
    obtain⟨q,q0,q4,qn,qp,ql⟩:=hsm.way
    have e:=a0r S.fit _ _ _ _ (Nat.le_refl _) qn hn ql (by rw[hm];exact hw)
    subst e
    have hji:tAt t s=some j:=by
     have:=(b8s S q0 q4 qn).2 ⟨hj2,qp⟩
     rwa [← hp] at this
    rw[hji] at hi
    obtain rfl:=Option.some.inj hi
    exact⟨q,j,k,hp,qn,q4,hji,hj2,hk,hsm,by rw[hm];exact hw,by rw[hfv,hm],by rw[hm];exact h1,by rw[htr,hnode]⟩
 ·have htl:(tLook t s).2≠0:=by rw[hl];exact h0
  rw[c6s htl,d0e h0]
  exact⟨hl,fun h=>absurd h h0⟩
theorem b1r{ss:List (List Int)}{t:List Nd}{s:ByteArray}{fn:List (List Int)}{i k:Nat}(P:FSpt ss t s fn i k):((t.getD i nd0).data.size:Int)=(inoAt ss (entAt ss (k:Int)).target).size:=by
 have e:=congrArg List.length (P.same.data P.kind)
 rw[a0z,readL,List.length_map,List.length_range] at e
 have:=(a3j (ss:=ss) (entAt ss (k:Int)).target).1
 omega
theorem b5x{b:List Int}(h:b.length=4){m i:Nat}(hm:m≤4):(cutB b m).getD i 0=if i<m then b.getD i 0 else 0:=by
 unfold cutB
 have hl:(b.take m).length=m:=by simp;omega
 split
 ·rename_i hi
  rw[List.getD,List.getElem?_append_left (by omega),List.getElem?_take,if_pos hi];rfl
 ·rename_i hi
  rw[List.getD,List.getElem?_append_right (by omega),hl,List.getElem?_replicate]
  split<;>rfl
theorem d0n{b:List Int}(h:b.length=4){m i:Nat}(hm:m≤4)(hi:i≤m):(cutB b m).take i=b.take i:=by
 unfold cutB
 have hl:(b.take m).length=m:=by simp;omega
 rw[List.take_append_of_le_length (by omega),List.take_take,Nat.min_eq_left hi]
theorem b0y{a b:Nat}(h:a≤b):need a≤need b:=by unfold need;omega
theorem a9i{i z:Nat}(h:i<z):i / 32<need z:=by unfold need;omega
theorem c7f{ss:List (List Int)}(hs:Secs ss){m:Int}(h:(inoAt ss m).kind=1){z:Nat}(hz:(z:Int)≤(inoAt ss m).size):rightI ⟨(inoAt ss m).kind,(z:Int),cutB (inoAt ss m).b (need z)⟩=true:=by
 have h4:=a1m hs m
 have hsz:=a3j (ss:=ss) m
 have hn4:need z≤4:=a6c (by omega)
 have hnm:need z≤need (inoAt ss m).size.toNat:=b0y (by omega)
 rw[a1r (x:=⟨(inoAt ss m).kind,(z:Int),cutB (inoAt ss m).b (need z)⟩) h,Bool.and_eq_true,Bool.and_eq_true,decide_eq_true_eq,decide_eq_true_eq]
 refine⟨⟨by show 0≤(z:Int);omega,by show (z:Int)≤128;omega⟩,?_⟩
 rw[blks,List.all_eq_true]
 intro i hi
 have hi:=List.mem_range.1 hi
 show blkOk (cutB (inoAt ss m).b (need z)) (need ((z:Int).toNat)) i=true
 rw[Int.toNat_natCast]
 by_cases hin:i<need z
 ·obtain⟨g1,g2,g3⟩:=a8i h (i:=i) (by omega)
  rw[a4d hin,b5x h4 hn4,if_pos hin,d0n h4 hn4 (by omega),Bool.and_eq_true,Bool.and_eq_true,decide_eq_true_eq,decide_eq_true_eq,Bool.not_eq_true']
  refine⟨⟨g1,g2⟩,?_⟩
  cases hc:((inoAt ss m).b.take i).contains ((inoAt ss m).b.getD i 0) with
  | false=>rfl
  | true =>
   rw[List.contains_iff_mem,List.mem_take_iff_getElem] at hc
   obtain⟨j,hj,e⟩:=hc
   exact absurd (by rw[← e];simp[List.getD,show j<(inoAt ss m).b.length by omega]) (g3 j (by omega))
 ·rw[a4y hin,b5x h4 hn4,if_neg hin]
  rfl
def takeS(s:ByteArray)(z:Nat):ByteArray:=strOfNums ((bys s).take z)
theorem c9i(s:ByteArray)(z:Nat):bys (takeS s z)=(bys s).take z:=a0o fun x hx=>a4f s x (List.mem_of_mem_take hx)
def tTrunc(t:List Nd)(s:ByteArray)(z:Int):Int×List Nd :=
 if (tRead t s).2≠0 then ((tRead t s).2,t)
 else if z<0∨((tRead t s).1.size:Int)<z then (1,t)
 else match tAt t s with
  | none=>(0,t)
  | some i=>(0,t.set i (withD (t.getD i nd0) (takeS (tRead t s).1 z.toNat)))
theorem b5w{t:List Nd}{i:Nat}(h:i<t.length):t.set i (t.getD i nd0)=t:=by
 apply List.ext_getElem
 ·simp
 ·intro j h1 h2
  rw[List.getElem_set]
  split
  ·rename_i e;subst e;simp[List.getD,h]
  ·rfl
theorem b8p{ss:List (List Int)}{n:Nat}(hn:n<16)(x y:Ino)(hy:∀i:Nat,(i:Int)<x.size→1≤x.b.getD (i / 32) 0){i:Nat}(hi:(i:Int)<x.size):byteAt (setI ss n y) x i=byteAt ss x i:=by
 have:=hy i hi
 unfold byteAt setI
 have h3:1+n≠40+(x.b.getD (i / 32) 0).toNat:=by omega
 rw[b5e h3]
theorem d0t{ss:List (List Int)}(hs:Secs ss){n:Nat}(hn:n<16)(y:Ino){z:Int}(h:(inoAt ss z).kind=1):readL (setI ss n y) (inoAt ss z)=readL ss (inoAt ss z):=by
 obtain⟨h0,h1,h2⟩:=a3t hs z h
 unfold readL
 apply List.map_congr_left
 intro a ha
 have ha2:=List.mem_range.1 ha
 exact b8p hn _ _ (fun i hi=>(h2 i hi).1) (by omega)
theorem c6p{st:St}(hs:Sound st){t:List Nd}(I:Inv (nowL st) t)(s:ByteArray)(z:Int):Both (tTrunc t s z) (truncV st s z):=by
 obtain⟨e1,e2⟩:=b0x I.sim s
 unfold tTrunc truncV
 rw[e1]
 by_cases h0:(fileV (nowL st) s).2.2=0
 case neg=>rw[if_pos h0,if_pos h0];exact⟨rfl,I,hs⟩
 rw[if_neg (a1o h0),if_neg (a1o h0)]
 obtain⟨fn,i,k,P⟩:=e2 h0
 have hsz:=b1r P
 rw[P.read,P.file,P.at_]
 simp only
 rw[hsz]
 by_cases hz:z<0∨(inoAt (nowL st) (entAt (nowL st) (k:Int)).target).size<z
 ·rw[if_pos hz,if_pos hz];exact⟨rfl,I,hs⟩
 ·rw[if_neg hz,if_neg hz]
  obtain⟨m,rfl⟩:=Int.eq_ofNat_of_zero_le (show 0≤z by omega)
  rw[Int.toNat_natCast]
  by_cases he:(m:Int)=(inoAt (nowL st) (entAt (nowL st) (k:Int)).target).size
  ·rw[if_pos he]
   refine⟨rfl,?_,hs⟩
   have e:takeS (t.getD i nd0).data m=(t.getD i nd0).data:=by
    rw[takeS,List.take_of_length_le (by rw[a0z];omega),a5g]
   show Inv (nowL st) (t.set i (withD (t.getD i nd0) (takeS (t.getD i nd0).data m)))
   rw[e]
   show Inv (nowL st) (t.set i (t.getD i nd0))
   rw[b5w P.hi]
   exact I
  ·rw[if_neg he]
   have F:=I.sim.fit
   have hu:=a1j P.same.used
   obtain⟨n,hn⟩:=Int.eq_ofNat_of_zero_le (show 0≤(entAt (nowL st) (k:Int)).target by omega)
   have hn16:n<16:=by omega
   have h4:=a1m F.secs (n:Int)
   have hkd:(inoAt (nowL st) (n:Int)).kind=1:=by rw[← hn];exact P.kind
   have hr:=c7f F.secs hkd (z:=m) (by rw[← hn];omega)
   have hmz:(m:Int)<(inoAt (nowL st) (n:Int)).size:=by rw[← hn];omega
   have hss:=a3j (ss:=nowL st) (n:Int)
   have hn4:need m≤4:=a6c (by omega)
   rw[hn]
   obtain⟨y,hy⟩:∃y:Ino,(⟨(inoAt (nowL st) (n:Int)).kind,(m:Int),cutB (inoAt (nowL st) (n:Int)).b (need m)⟩:Ino)=y:=⟨_,rfl⟩
   rw[hy] at hr ⊢
   have hy4:y.b.length=4:=by rw[← hy];simp[cutB,h4];omega
   have hyk:y.kind=1:=by rw[← hy];exact hkd
   have hys:y.size=(m:Int):=by rw[← hy]
   have hyb:∀l,y.b.getD l 0=if l<need m then (inoAt (nowL st) (n:Int)).b.getD l 0 else 0:=fun l=>by rw[← hy];exact b5x h4 hn4
   obtain⟨st',g1,g2,g3⟩:=a4l [wIno (n:Int) y] hs (fun w hw=>by rw[List.mem_singleton.1 hw];exact c9m hn16 _)
   rw[g1]
   have g4:nowL st'=setI (nowL st) n y:=by
    rw[g3,setI]
    show (nowL st).set (wIno (n:Int) y).pos.toNat _=_
    rw[c1a];rfl
   refine⟨rfl,?_,g2⟩
   show Inv (nowL st') _
   rw[g4]
   have hI:=fun j=>b6i F.len hn16 hy4 hr j
   have hA:Alike (nowL st) (setI (nowL st) n y):=⟨a8b ..,a2a F.secs (a2s hy4) _,fun j=>b6k F.len hn16 y j,fun j=>by
    rw[hI]
    split
    ·rename_i e;rw[e,hyk,hkd]
    ·rfl⟩
   have hne:∀j:Nat,j<24→j≠k→(entAt (nowL st) (j:Int)).used=true→(entAt (nowL st) (j:Int)).target≠(n:Int):=fun j hj hjk hju e=>hjk (F.tgt j k hj P.hk hju P.same.used (by rw[e,hn]))
   have hneed:∀j:Nat,j<24→(entAt (nowL st) (j:Int)).used=true→∀l,l<needAt (setI (nowL st) n y) j→l<needAt (nowL st) j∧blkAt (setI (nowL st) n y) j l=blkAt (nowL st) j l:=fun j hj hju l hl=>by
    by_cases e:j=k
    ·subst e
     unfold needAt at hl ⊢
     unfold blkAt
     rw[hA.ent,hn,hI,if_pos rfl] at hl ⊢
     rw[hys,Int.toNat_natCast] at hl
     have:=b0y (a:=m) (b:=(inoAt (nowL st) (n:Int)).size.toNat) (by omega)
     exact⟨by omega,by rw[hyb,if_pos hl]⟩
    ·unfold needAt at hl ⊢
     unfold blkAt
     rw[hA.ent,hI,if_neg (hne j hj e hju)] at hl ⊢
     exact⟨hl,rfl⟩
   refine⟨c2g I.sim hA P.hi P.hk P.same (fun j hj hjk hju h1 => ?_) _ ?_,fun a b l q ha hb hau hbu hl hq e => ?_,fun a ha hd => ?_⟩
   ·rw[hI,if_neg (hne j hj hjk hju),d0t F.secs hn16 y h1]
   ·rw[hn,hI,if_pos rfl,c9i,P.same.data P.kind,hn]
    unfold readL
    rw[hys,Int.toNat_natCast,← List.map_take,List.take_range,Nat.min_eq_left (by omega)]
    apply List.map_congr_left
    intro a ha
    have ha:=List.mem_range.1 ha
    have hin:=a9i ha
    have e1:byteAt (nowL st) (inoAt (nowL st) (n:Int)) a=byteAt (nowL st) y a:=by
     unfold byteAt
     rw[hyb,if_pos hin]
    obtain⟨f0,f1,f2⟩:=a3t F.secs (n:Int) hkd
    rw[e1]
    refine(b8p hn16 y y (fun c hc => ?_) (by rw[hys];omega)).symm
    rw[hys] at hc
    rw[hyb,if_pos (a9i (by omega))]
    exact(f2 c (by omega)).1
   ·rw[hA.ent] at hau hbu
    obtain⟨l1,l2⟩:=hneed a ha hau l hl
    obtain⟨q1,q2⟩:=hneed b hb hbu q hq
    rw[l2,q2] at e
    exact I.blk a b l q ha hb hau hbu l1 q1 e
   ·rw[List.length_set] at ha
    by_cases e:a=i
    ·subst e
     rw[a2z ha] at hd
     have:=P.same.dir
     rw[P.kind] at this
     have h3:(t.getD a nd0).dir=true:=hd
     rw[this] at h3
     exact absurd h3 (by decide)
    ·rw[getD_set_ne e] at hd ⊢
     exact I.flat a ha hd
end fs
namespace fs
set_option maxRecDepth 100000
open Go.ChangeShapes Go.WideShapes Go.ChangeAt Go.RowKit
open rows
open sec
open dsk (InS)
open ly
open pa
open lk
theorem d0z{w:World}{sz n:Nat}{v:Value}{cs:List Value}(h:Rd w sz v n cs):InS (fun b=>b<w.heap.size) v:=fun a m c hv hm=>by
 rcases h with⟨p,cap,h1,_⟩|⟨b,off,cap,h1,_,_,_,h2,_⟩
 ·rw[hv] at h1
  cases h1
  omega
 ·rw[hv] at h1
  cases h1
  exact h2
end fs
namespace fs
set_option maxRecDepth 100000
open sec
open ly
open lk
open pa
open al
open dsk (Wr)
structure Grow (L:List (List Int)) (n:Nat) (off:Nat) (b:List Int) (f:List Nat):Prop where
 len:L.length=65
 secs:Secs L
 n16:n<16
 kind:(inoAt L (n:Int)).kind=1
 offs:(off:Int)≤(inoAt L (n:Int)).size
 room:off+b.length≤128
 cnt:f.length+need (inoAt L (n:Int)).size.toNat=need (max (inoAt L (n:Int)).size (off+b.length:Nat)).toNat
 free:∀c∈f,1≤c∧c≤24∧usedB L c=false
 nodup:f.Nodup
 bytes:∀z∈b,0≤z∧z<256
 taken:takenB L (n:Int)=true
def gI(L:List (List Int))(n off:Nat)(b:List Int)(f:List Nat):Ino:=grownI (inoAt L (n:Int)) off b.length (ofNats f)
def hadG(L:List (List Int))(n:Nat):Nat:=need (inoAt L (n:Int)).size.toNat
def newG(L:List (List Int))(n off:Nat)(b:List Int):Nat:=need (max (inoAt L (n:Int)).size (off+b.length:Nat)).toNat
section
variable {L:List (List Int)} {n off:Nat} {b:List Int} {f:List Nat}
theorem Grow.sz(G:Grow L n off b f):0≤(inoAt L (n:Int)).size∧(inoAt L (n:Int)).size≤128:=a3j _
theorem Grow.gsize(G:Grow L n off b f):(gI L n off b f).size=max (inoAt L (n:Int)).size (off+b.length:Nat):=rfl
theorem Grow.new4(G:Grow L n off b f):newG L n off b≤4:=a6c (by have:=G.sz;have:=G.room;omega)
theorem Grow.fl(G:Grow L n off b f):f.length+hadG L n=newG L n off b:=G.cnt
theorem Grow.four(G:Grow L n off b f):(inoAt L (n:Int)).b.length=4:=a1m G.secs _
theorem Grow.bl(G:Grow L n off b f):(gI L n off b f).b.length=4:=by
 have h1:=G.fl
 have h2:=G.new4
 have h4:=G.four
 show ((inoAt L (n:Int)).b.take (hadG L n)++ofNats f++(inoAt L (n:Int)).b.drop (hadG L n+(ofNats f).length)).length=4
 rw[List.length_append,List.length_append,List.length_take,List.length_drop,a3c,h4]
 omega
theorem Grow.at_(G:Grow L n off b f)(i:Nat):(gI L n off b f).b.getD i 0=if i<hadG L n then (inoAt L (n:Int)).b.getD i 0 else if i<newG L n off b then ((f.getD (i-hadG L n) 0:Nat):Int) else 0:=by
 have h1:=G.fl
 have h2:=G.new4
 have h4:=G.four
 show ((inoAt L (n:Int)).b.take (hadG L n)++ofNats f++(inoAt L (n:Int)).b.drop (hadG L n+(ofNats f).length)).getD i 0=_
 have hl:((inoAt L (n:Int)).b.take (hadG L n)).length=hadG L n:=by rw[List.length_take];omega
 have hl2:((inoAt L (n:Int)).b.take (hadG L n)++ofNats f).length=newG L n off b:=by rw[List.length_append,hl,a3c];omega
 by_cases e1:i<hadG L n
 ·rw[if_pos e1,List.getD,List.getElem?_append_left (by omega),List.getElem?_append_left (by omega),List.getElem?_take,if_pos e1];rfl
 ·rw[if_neg e1]
  by_cases e2:i<newG L n off b
  ·rw[if_pos e2,List.getD,List.getElem?_append_left (by omega),List.getElem?_append_right (by omega),hl]
   have:i-hadG L n<f.length:=by omega
   simp[ofNats,List.getD,this]
  ·rw[if_neg e2,List.getD,List.getElem?_append_right (by omega),hl2,List.getElem?_drop,a3c]
   have h5:=c2n G.secs (m:=(n:Int)) (i:=hadG L n+f.length+(i-newG L n off b)) (by show ¬_<hadG L n;omega)
   exact h5
theorem Grow.old(G:Grow L n off b f){i:Nat}(h:i<hadG L n):(gI L n off b f).b.getD i 0=(inoAt L (n:Int)).b.getD i 0:=by rw[G.at_,if_pos h]
theorem Grow.fresh(G:Grow L n off b f){i:Nat}(h:¬i<hadG L n)(h2:i<newG L n off b):∃c:Nat,c∈f∧(gI L n off b f).b.getD i 0=(c:Int)∧f[i-hadG L n]? = some c:=by
 have h1:=G.fl
 have hl:i-hadG L n<f.length:=by omega
 refine⟨f[i-hadG L n],List.getElem_mem hl,?_,by simp[hl]⟩
 rw[G.at_,if_neg h,if_pos h2]
 simp[List.getD,hl]
theorem Grow.inuse(G:Grow L n off b f){i:Nat}(h:i<hadG L n):∃c:Nat,(inoAt L (n:Int)).b.getD i 0=(c:Int)∧1≤c∧c≤24∧usedB L c=true:=by
 obtain⟨g1,g2,_⟩:=a8i G.kind h
 obtain⟨c,hc⟩:=Int.eq_ofNat_of_zero_le (show 0≤(inoAt L (n:Int)).b.getD i 0 by omega)
 refine⟨c,hc,by omega,by omega,?_⟩
 rw[usedB,hasU,Bool.or_eq_true,List.any_eq_true]
 refine Or.inr ⟨n,List.mem_range.2 G.n16,?_⟩
 rw[Bool.and_eq_true,liveB,Bool.and_eq_true,decide_eq_true_eq,List.contains_iff_mem]
 have h4:=G.four
 have hn:=G.new4
 have hf:=G.fl
 refine⟨⟨G.kind,G.taken⟩,?_⟩
 have hl:i<(inoAt L (n:Int)).b.length:=by omega
 rw[← hc]
 simp only[List.getD,List.getElem?_eq_getElem hl,Option.getD_some]
 exact List.getElem_mem hl
theorem Grow.pos(G:Grow L n off b f){i:Nat}(h:i<newG L n off b):∃c:Nat,(gI L n off b f).b.getD i 0=(c:Int)∧1≤c∧c≤24:=by
 by_cases e:i<hadG L n
 ·obtain⟨c,h1,h2,h3,_⟩:=G.inuse e
  exact⟨c,by rw[G.old e];exact h1,h2,h3⟩
 ·obtain⟨c,h1,h2,_⟩:=G.fresh e h
  obtain⟨h3,h4,_⟩:=G.free c h1
  exact⟨c,h2,h3,h4⟩
theorem Grow.inj(G:Grow L n off b f){i j:Nat}(hi:i<newG L n off b)(hj:j<newG L n off b)(h:(gI L n off b f).b.getD i 0=(gI L n off b f).b.getD j 0):i=j:=by
 have hf:=G.fl
 by_cases ei:i<hadG L n<;>by_cases ej:j<hadG L n
 ·rw[G.old ei,G.old ej] at h
  rcases Nat.lt_trichotomy i j with hl|hl|hl
  ·exact absurd h ((a8i G.kind ej).2.2 i hl)
  ·exact hl
  ·exact absurd h.symm ((a8i G.kind ei).2.2 j hl)
 ·obtain⟨c,c1,_,_,c2⟩:=G.inuse ei
  obtain⟨e,e1,e2,_⟩:=G.fresh ej hj
  rw[G.old ei,c1,e2] at h
  have:c=e:=by omega
  subst this
  rw[(G.free c e1).2.2] at c2;cases c2
 ·obtain⟨c,c1,_,_,c2⟩:=G.inuse ej
  obtain⟨e,e1,e2,_⟩:=G.fresh ei hi
  rw[G.old ej,c1,e2] at h
  have:c=e:=by omega
  subst this
  rw[(G.free c e1).2.2] at c2;cases c2
 ·obtain⟨c,c1,c2,c3⟩:=G.fresh ei hi
  obtain⟨e,e1,e2,e3⟩:=G.fresh ej hj
  rw[c2,e2] at h
  have:c=e:=by omega
  subst this
  have hil:i-hadG L n<f.length:=by omega
  have hjl:j-hadG L n<f.length:=by omega
  rw[List.getElem?_eq_getElem hil] at c3
  rw[List.getElem?_eq_getElem hjl] at e3
  have heq:f[i-hadG L n]=f[j-hadG L n]:=(Option.some.inj c3).trans (Option.some.inj e3).symm
  have hnd:=List.pairwise_iff_getElem.1 G.nodup
  rcases Nat.lt_trichotomy (i-hadG L n) (j-hadG L n) with hl|hl|hl
  ·exact absurd heq (hnd _ _ hil hjl hl)
  ·omega
  ·exact absurd heq.symm (hnd _ _ hjl hil hl)
theorem Grow.right(G:Grow L n off b f):rightI (gI L n off b f)=true:=by
 have hk:(gI L n off b f).kind=1:=G.kind
 have hs:=G.sz
 have hr:=G.room
 have hsz:=G.gsize
 rw[a1r hk,Bool.and_eq_true,Bool.and_eq_true,decide_eq_true_eq,decide_eq_true_eq]
 refine⟨⟨by rw[hsz];omega,by rw[hsz];omega⟩,?_⟩
 rw[blks,List.all_eq_true]
 intro i hi
 show blkOk (gI L n off b f).b (newG L n off b) i=true
 by_cases e:i<newG L n off b
 ·obtain⟨c,c1,c2,c3⟩:=G.pos e
  rw[a4d e,c1,Bool.and_eq_true,Bool.and_eq_true,decide_eq_true_eq,decide_eq_true_eq,Bool.not_eq_true']
  refine⟨⟨by omega,by omega⟩,?_⟩
  cases hc:((gI L n off b f).b.take i).contains (c:Int) with
  | false=>rfl
  | true =>
   rw[List.contains_iff_mem,List.mem_take_iff_getElem] at hc
   obtain⟨j,hj,e2⟩:=hc
   have hjl:j<(gI L n off b f).b.length:=by omega
   have:=G.inj (i:=j) (j:=i) (by omega) e (by rw[c1,← e2];simp[List.getD,hjl])
   omega
 ·rw[a4y e,G.at_,if_neg (by have:=G.fl;omega),if_neg e];rfl
theorem Grow.hit(G:Grow L n off b f){i:Nat}(h:hitB off b.length i=true):i<newG L n off b:=by
 rw[hitB,decide_eq_true_eq] at h
 have hs:=G.sz
 unfold newG need
 omega
def oldS(L:List (List Int))(n:Nat)(y:Ino)(i:Nat):List Int:=if i<hadG L n then L.getD (40+y.b.getD i 0).toNat zero32 else zero32
def blkImg(L:List (List Int))(n off:Nat)(b:List Int)(y:Ino):List (List Int):=setsL L (blksW L (n:Int) y (hadG L n) off b 4)
theorem c2t:∀(ws:List Wr) (l:List (List Int)),(setsL l ws).length=l.length
 | [],l=>rfl
 | x::r,l=>by
  show (setsL (l.set x.pos.toNat x.s) r).length=_
  rw[c2t r,List.length_set]
theorem b6b:∀(ws:List Wr) (l:List (List Int)) (p:Nat),(∀x∈ws,x.pos.toNat≠p)→(setsL l ws).getD p zero32=l.getD p zero32
 | [],l,p,_=>rfl
 | x::r,l,p,h=>by
  show (setsL (l.set x.pos.toNat x.s) r).getD p zero32=_
  rw[b6b r _ p fun y hy=>h y (List.mem_cons_of_mem _ hy)]
  rw[b5e (h x (List.mem_cons_self ..))]
theorem c7w:∀(ws:List Wr) (l:List (List Int)) (x:Wr),x∈ws→x.pos.toNat<l.length→(∀y∈ws,y.pos.toNat=x.pos.toNat→y.s=x.s)→(setsL l ws).getD x.pos.toNat zero32=x.s
 | [],l,x,h,_,_=>by cases h
 | y::r,l,x,h,hl,hu=>by
  show (setsL (l.set y.pos.toNat y.s) r).getD x.pos.toNat zero32=_
  by_cases hr:∃z∈r,z.pos.toNat=x.pos.toNat
  ·obtain⟨z,hz,e⟩:=hr
   have h1:=c7w r (l.set y.pos.toNat y.s) z hz (by rw[List.length_set,e];exact hl) (fun w hw e2=>by rw[hu w (List.mem_cons_of_mem _ hw) (by rw[e2,e]),hu z (List.mem_cons_of_mem _ hz) e])
   rw[e] at h1
   rw[h1,hu z (List.mem_cons_of_mem _ hz) e]
  ·rw[b6b r _ _ fun z hz e=>hr ⟨z,hz,e⟩]
   rcases List.mem_cons.1 h with rfl|h
   ·simp[List.getD,hl]
   ·exact absurd ⟨x,h,rfl⟩ hr
theorem b8k:∀(ws:List Wr) (l:List (List Int)),Secs l→(∀x∈ws,Sec x.s)→Secs (setsL l ws)
 | [],l,h,_=>h
 | x::r,l,h,hw=>b8k r _ (a2a h (hw x (List.mem_cons_self ..)) _) fun y hy=>hw y (List.mem_cons_of_mem _ hy)
theorem blksW_mem{y:Ino}{x:Wr}:x∈blksW L (n:Int) y (hadG L n) off b 4↔∃i,i<4∧hitB off b.length i=true∧x=⟨40+y.b.getD i 0,putL (oldS L n y i) off b i,1,n,0⟩:=by
 unfold blksW oldS
 rw[List.mem_map]
 constructor
 ·rintro⟨i,hi,rfl⟩
  obtain⟨h1,h2⟩:=List.mem_filter.1 hi
  exact⟨i,List.mem_range.1 h1,h2,rfl⟩
 ·rintro⟨i,h1,h2,rfl⟩
  exact⟨i,List.mem_filter.2 ⟨List.mem_range.2 h1,h2⟩,rfl⟩
theorem c2v{old:List Int}(h:Sec old){b:List Int}(hb:∀z∈b,0≤z∧z<256)(off i:Nat):Sec (putL old off b i):=by
 refine⟨by simp[putL],fun z hz => ?_⟩
 unfold putL at hz
 obtain⟨j,hj,rfl⟩:=List.mem_map.1 hz
 split
 ·rename_i hin
  have hl:32 * i+j-off<b.length:=by omega
  simp only[List.getD,List.getElem?_eq_getElem hl,Option.getD_some]
  exact hb _ (List.getElem_mem hl)
 ·exact a1l h j
theorem a9u{l:List (List Int)}(h:Secs l)(p:Nat):Sec (l.getD p zero32):=by
 by_cases hp:p<l.length
 ·simp only[List.getD,List.getElem?_eq_getElem hp,Option.getD_some]
  exact h _ (List.getElem_mem hp)
 ·simp only[List.getD,List.getElem?_eq_none (Nat.le_of_not_lt hp),Option.getD_none]
  exact a0g
theorem d3o(hs:Secs L)(y:Ino)(i:Nat):Sec (oldS L n y i):=by
 unfold oldS
 split
 ·exact a9u hs _
 ·exact a0g
theorem Grow.secsB(G:Grow L n off b f):Secs (blkImg L n off b (gI L n off b f)):=by
 refine b8k _ _ G.secs fun x hx => ?_
 obtain⟨i,_,_,rfl⟩:=blksW_mem.1 hx
 exact c2v (d3o G.secs _ _) G.bytes _ _
theorem Grow.inB(G:Grow L n off b f){x:Wr}(hx:x∈blksW L (n:Int) (gI L n off b f) (hadG L n) off b 4):41≤x.pos∧x.pos<65:=by
 obtain⟨i,_,h,rfl⟩:=blksW_mem.1 hx
 obtain⟨c,c1,c2,c3⟩:=G.pos (G.hit h)
 show 41≤40+(gI L n off b f).b.getD i 0∧40+(gI L n off b f).b.getD i 0<65
 omega
theorem Grow.keep(G:Grow L n off b f){c:Nat}(h:∀i,hitB off b.length i=true→(gI L n off b f).b.getD i 0≠(c:Int)):(blkImg L n off b (gI L n off b f)).getD (40+c) zero32=L.getD (40+c) zero32:=by
 refine b6b _ _ _ fun x hx e => ?_
 have hp:=G.inB hx
 obtain⟨i,_,hh,rfl⟩:=blksW_mem.1 hx
 refine h i hh ?_
 have:(40+(gI L n off b f).b.getD i 0).toNat=40+c:=e
 obtain⟨d,d1,d2,d3⟩:=G.pos (G.hit hh)
 omega
theorem Grow.made(G:Grow L n off b f){i:Nat}(h:hitB off b.length i=true):(blkImg L n off b (gI L n off b f)).getD (40+((gI L n off b f).b.getD i 0).toNat) zero32=putL (oldS L n (gI L n off b f) i) off b i:=by
 obtain⟨c,c1,c2,c3⟩:=G.pos (G.hit h)
 have h4:=G.new4
 have hi:=G.hit h
 have hx:(⟨40+(gI L n off b f).b.getD i 0,putL (oldS L n (gI L n off b f) i) off b i,1,n,0⟩:Wr)∈blksW L (n:Int) (gI L n off b f) (hadG L n) off b 4:=blksW_mem.2 ⟨i,by omega,h,rfl⟩
 have e:(40+(gI L n off b f).b.getD i 0).toNat=40+((gI L n off b f).b.getD i 0).toNat:=by omega
 have:=c7w _ L _ hx (by show (40+(gI L n off b f).b.getD i 0).toNat<L.length;rw[G.len];omega) (fun y hy e2=>by
  obtain⟨j,_,hj,rfl⟩:=blksW_mem.1 hy
  obtain⟨d,d1,d2,d3⟩:=G.pos (G.hit hj)
  have e3:(40+(gI L n off b f).b.getD j 0).toNat=(40+(gI L n off b f).b.getD i 0).toNat:=e2
  have:=G.inj (G.hit hj) hi (by omega)
  subst this
  rfl)
 rw[← e]
 exact this
end
end fs
namespace fs
set_option maxRecDepth 100000
open sec
open ly
open lk
open pa
open al
open dsk (St Wr)
theorem b1a:∀(ws:List Wr) (l:List (List Int)),l.length=65→(∀x∈ws,41≤x.pos∧x.pos<65)→(∀j,entAt (setsL l ws) j=entAt l j)∧(∀j,inoAt (setsL l ws) j=inoAt l j)
 | [],l,_,_=>⟨fun _=>rfl,fun _=>rfl⟩
 | x::r,l,hl,h=>by
  obtain⟨h0,h1⟩:=h x (List.mem_cons_self ..)
  have e:l.set x.pos.toNat x.s=setB l (x.pos.toNat-40) x.s:=by rw[setB,show 40+(x.pos.toNat-40)=x.pos.toNat by omega]
  obtain⟨g1,g2⟩:=b1a r (l.set x.pos.toNat x.s) (by rw[List.length_set];exact hl) fun y hy=>h y (List.mem_cons_of_mem _ hy)
  refine⟨fun j=>(g1 j).trans ?_,fun j=>(g2 j).trans ?_⟩
  ·rw[e];exact d4b hl (by omega) _ j
  ·rw[e];exact d3v hl (by omega) _ j
theorem d2c(l:List (List Int))(a b:List Wr):setsL l (a++b)=setsL (setsL l a) b:=by simp[setsL,List.foldl_append]
def wrImg(L:List (List Int))(n off:Nat)(b:List Int)(y:Ino):List (List Int):=setsL L (blksW L (n:Int) y (hadG L n) off b 4++if y=inoAt L (n:Int) then [] else [wIno (n:Int) y])
def freshL(s:List Int)(off:Nat)(b:List Int):List Int:=s.take off++b++s.drop (off+b.length)
section
variable {L:List (List Int)} {n off:Nat} {b:List Int} {f:List Nat}
theorem Grow.img(G:Grow L n off b f):(wrImg L n off b (gI L n off b f)).length=65∧Secs (wrImg L n off b (gI L n off b f))∧(∀j,entAt (wrImg L n off b (gI L n off b f)) j=entAt L j)∧(∀m,inoAt (wrImg L n off b (gI L n off b f)) m=if m=(n:Int) then gI L n off b f else inoAt L m) ∧
  (∀c:Nat,1≤c→(wrImg L n off b (gI L n off b f)).getD (40+c) zero32=(blkImg L n off b (gI L n off b f)).getD (40+c) zero32):=by
 obtain⟨g1,g2⟩:=b1a _ L G.len (fun x hx=>G.inB hx)
 have hl:(blkImg L n off b (gI L n off b f)).length=65:=by rw[blkImg,c2t];exact G.len
 have hs:=G.secsB
 unfold wrImg
 by_cases e:gI L n off b f=inoAt L (n:Int)
 ·rw[if_pos e,List.append_nil]
  refine⟨hl,hs,g1,fun m => ?_,fun c _=>rfl⟩
  rw[g2]
  split
  ·rename_i h;rw[h,e]
  ·rfl
 ·rw[if_neg e,d2c]
  have e2:setsL (setsL L (blksW L (n:Int) (gI L n off b f) (hadG L n) off b 4)) [wIno (n:Int) (gI L n off b f)]=setI (blkImg L n off b (gI L n off b f)) n (gI L n off b f):=by
   show (blkImg L n off b (gI L n off b f)).set (wIno (n:Int) _).pos.toNat _=_
   rw[c1a];rfl
  rw[e2]
  refine⟨by rw[a8b];exact hl,a2a hs (a2s G.bl) _,fun j=>by rw[b6k hl G.n16];exact g1 j,fun m => ?_,fun c hc => ?_⟩
  ·rw[b6i hl G.n16 G.bl G.right]
   split
   ·rfl
   ·exact g2 m
  ·unfold setI
   have h3:1+n≠40+c:=by have:=G.n16;omega
   rw[b5e h3]
theorem d1q{old:List Int}{off:Nat}{b:List Int}{i q:Nat}(hq:q<32):(putL old off b i).getD q 0=if off≤32 * i+q∧32 * i+q<off+b.length then b.getD (32 * i+q-off) 0 else old.getD q 0:=by
 simp only[putL,List.getD,List.getElem?_map,List.getElem?_range hq,Option.map_some,Option.getD_some]
theorem Grow.byte(G:Grow L n off b f){j:Nat}(hj:(j:Int)<(gI L n off b f).size):byteAt (wrImg L n off b (gI L n off b f)) (gI L n off b f) j=if off≤j∧j<off+b.length then b.getD (j-off) 0 else byteAt L (inoAt L (n:Int)) j:=by
 have hs:=G.sz
 have ho:=G.offs
 have hgs:=G.gsize
 rw[hgs] at hj
 have hi:j / 32<newG L n off b:=by unfold newG;exact a9i (by omega)
 obtain⟨c,c1,c2,c3⟩:=G.pos hi
 obtain⟨_,_,_,_,hc⟩:=G.img
 have hjj:32 * (j / 32)+j % 32=j:=by omega
 have hjr:j % 32<32:=by omega
 unfold byteAt
 rw[c1,Int.toNat_natCast,hc c c2]
 cases hh:hitB off b.length (j / 32) with
 | true =>
  have hm:=G.made hh
  rw[c1,Int.toNat_natCast] at hm
  rw[hm,d1q hjr,hjj]
  split
  ·rfl
  ·rename_i hno
   have hjx:(j:Int)<(inoAt L (n:Int)).size:=by omega
   have hhad:j / 32<hadG L n:=by unfold hadG;exact a9i (by omega)
   have hxc:(inoAt L (n:Int)).b.getD (j / 32) 0=(c:Int):=by rw[← G.old hhad,c1]
   rw[oldS,if_pos hhad,c1,hxc,show (40+(c:Int)).toNat=40+c by omega,Int.toNat_natCast]
 | false =>
  have hno:¬(off≤j∧j<off+b.length):=fun h=>by
   have:hitB off b.length (j / 32)=true:=by rw[hitB,decide_eq_true_eq];omega
   rw[hh] at this;cases this
  rw[if_neg hno]
  have hjx:(j:Int)<(inoAt L (n:Int)).size:=by omega
  have hhad:j / 32<hadG L n:=by unfold hadG;exact a9i (by omega)
  rw[G.keep (c:=c) fun i h e=>by
   have:=G.inj (G.hit h) hi (by rw[e,c1])
   subst this
   rw[hh] at h;cases h]
  rw[← G.old hhad,c1,Int.toNat_natCast]
theorem b1w(s:List Int){off:Nat}(h:off≤s.length)(b:List Int):(freshL s off b).length=max s.length (off+b.length):=by
 unfold freshL
 rw[List.length_append,List.length_append,List.length_take,List.length_drop]
 omega
theorem d2y(s:List Int){off:Nat}(h:off≤s.length)(b:List Int){j:Nat}(hj:j<(freshL s off b).length):(freshL s off b)[j]? = some (if off≤j∧j<off+b.length then b.getD (j-off) 0 else s.getD j 0):=by
 rw[b1w s h] at hj
 unfold freshL
 have hl:(s.take off).length=off:=by rw[List.length_take];omega
 have hl2:(s.take off++b).length=off+b.length:=by rw[List.length_append,hl]
 by_cases h1:j<off
 ·have hjs:j<s.length:=by omega
  rw[List.getElem?_append_left (by omega),List.getElem?_append_left (by omega),List.getElem?_take,if_pos h1,if_neg (by omega)]
  simp[List.getD,hjs]
 ·by_cases h2:j<off+b.length
  ·have hjb:j-off<b.length:=by omega
   rw[List.getElem?_append_left (by omega),List.getElem?_append_right (by omega),hl,if_pos ⟨by omega,h2⟩]
   simp[List.getD,hjb]
  ·have hjs:j<s.length:=by omega
   rw[List.getElem?_append_right (by omega),hl2,List.getElem?_drop,if_neg (by omega),show off+b.length+(j-(off+b.length))=j by omega]
   simp[List.getD,hjs]
theorem Grow.readN(G:Grow L n off b f):readL (wrImg L n off b (gI L n off b f)) (gI L n off b f)=freshL (readL L (inoAt L (n:Int))) off b:=by
 have hs:=G.sz
 have ho:=G.offs
 have hrl:(readL L (inoAt L (n:Int))).length=(inoAt L (n:Int)).size.toNat:=by simp[readL]
 apply List.ext_getElem?
 intro j
 have hlen:(freshL (readL L (inoAt L (n:Int))) off b).length=(gI L n off b f).size.toNat:=by
  rw[b1w _ (by omega),hrl,G.gsize];omega
 by_cases hj:j<(gI L n off b f).size.toNat
 ·rw[d2y _ (by omega) _ (by omega),readL,List.getElem?_map,List.getElem?_range hj,Option.map_some,G.byte (by omega)]
  congr 1
  split
  ·rfl
  ·rename_i hno
   have hgs:=G.gsize
   have hjx:j<(inoAt L (n:Int)).size.toNat:=by omega
   rw[readL]
   simp[List.getD,hjx]
 ·rw[List.getElem?_eq_none (by rw[readL,List.length_map,List.length_range];omega),List.getElem?_eq_none (by omega)]
end
def freshS(s:ByteArray)(off:Nat)(b:ByteArray):ByteArray:=strOfNums (freshL (bys s) off (bys b))
theorem b3v(s:ByteArray)(off:Nat)(b:ByteArray):bys (freshS s off b)=freshL (bys s) off (bys b):=a0o fun x hx=>by
 unfold freshL at hx
 rcases List.mem_append.1 hx with hx|hx
 ·rcases List.mem_append.1 hx with hx|hx
  ·exact a4f s x (List.mem_of_mem_take hx)
  ·exact a4f b x hx
 ·exact a4f s x (List.mem_of_mem_drop hx)
def tWrite(t:List Nd)(s:ByteArray)(off:Int)(b:ByteArray):Int×List Nd :=
 if (tRead t s).2≠0 then ((tRead t s).2,t)
 else if off<0∨((tRead t s).1.size:Int)<off then (1,t)
 else if 128-off<(b.size:Int) then (2,t)
 else if 24<(tBlocks t:Int)-(need (tRead t s).1.size:Nat)+(need (freshS (tRead t s).1 off.toNat b).size:Nat) then (2,t)
 else match tAt t s with
  | none=>(0,t)
  | some i=>(0,t.set i (withD (t.getD i nd0) (freshS (tRead t s).1 off.toNat b)))
def tAppend(t:List Nd)(s:ByteArray)(b:ByteArray):Int×List Nd :=
 if (tRead t s).2≠0 then ((tRead t s).2,t) else tWrite t s ((tRead t s).1.size:Int) b
theorem b9s{ss:List (List Int)}{k:Nat}(hk:k<24)(hu:(entAt ss (k:Int)).used=true):takenB ss (entAt ss (k:Int)).target=true:=by
 rw[takenB,Bool.or_eq_true,namedIn,List.any_eq_true]
 exact Or.inl ⟨k,List.mem_range.2 hk,by rw[hu,decide_eq_true rfl];rfl⟩
theorem b9h{st:St}(hs:Sound st){t:List Nd}(I:Inv (nowL st) t)(s:ByteArray)(off:Int)(b:ByteArray):Both (tWrite t s off b) (writeFV st s off (bys b)):=by
 obtain⟨e1,e2⟩:=b0x I.sim s
 unfold tWrite writeFV
 simp only
 rw[e1]
 by_cases h0:(fileV (nowL st) s).2.2=0
 case neg=>rw[if_pos h0,if_pos h0];exact⟨rfl,I,hs⟩
 rw[if_neg (a1o h0),if_neg (a1o h0)]
 obtain⟨fn,i,k,P⟩:=e2 h0
 have hsz:=b1r P
 rw[P.read,P.file,P.at_]
 simp only
 rw[hsz,a0z]
 by_cases hz:off<0∨(inoAt (nowL st) (entAt (nowL st) (k:Int)).target).size<off
 ·rw[if_pos hz,if_pos hz];exact⟨rfl,I,hs⟩
 rw[if_neg hz,if_neg hz]
 by_cases hr:128-off<(b.size:Int)
 ·rw[if_pos hr,if_pos hr];exact⟨rfl,I,hs⟩
 rw[if_neg hr,if_neg hr]
 obtain⟨o,rfl⟩:=Int.eq_ofNat_of_zero_le (show 0≤off by omega)
 rw[Int.toNat_natCast]
 have F:=I.sim.fit
 have hu:=a1j P.same.used
 have hkt:=b9s P.hk P.same.used
 have hsm:=P.same
 have hkd:=P.kind
 have hrd:=P.same.data P.kind
 have hnn:=b7w I P.hi P.same
 obtain⟨n,hn⟩:=Int.eq_ofNat_of_zero_le (show 0≤(entAt (nowL st) (k:Int)).target by omega)
 have hn16:n<16:=by omega
 have hneedk:needAt (nowL st) k=hadG (nowL st) n:=by rw[needAt,hn];rfl
 rw[hn] at hz hsz hkt hkd hrd ⊢
 have hss:=a3j (ss:=nowL st) (n:Int)
 have hfl:(freshS (t.getD i nd0).data o b).size=(max (inoAt (nowL st) (n:Int)).size (o+b.size:Nat)).toNat:=by
  rw[← a0z,b3v,b1w _ (by rw[a0z];omega),a0z,a0z];omega
 rw[hfl,hnn,hneedk]
 have hcast:((o:Int)+(b.size:Int))=((o+b.size:Nat):Int):=by omega
 rw[hcast]
 obtain⟨w,hw⟩:∃w:Int,((need (max (inoAt (nowL st) (n:Int)).size (o+b.size:Nat)).toNat:Nat):Int)-(need (inoAt (nowL st) (n:Int)).size.toNat:Nat)=w:=⟨_,rfl⟩
 have hw0:0≤w:=by
  have:=b0y (a:=(inoAt (nowL st) (n:Int)).size.toNat) (b:=(max (inoAt (nowL st) (n:Int)).size (o+b.size:Nat)).toNat) (by omega)
  omega
 have hfr:=c9b (nowL st)
 have htb:=c0s I
 rw[hw]
 by_cases hfull:24<(tBlocks t:Int)-((hadG (nowL st) n:Nat):Int)+((need (max (inoAt (nowL st) (n:Int)).size (o+b.size:Nat)).toNat:Nat):Int)
 ·rw[if_pos hfull]
  have hb:blkB (nowL st) w=false:=by
   rw[blkB,decide_eq_false_iff_not]
   unfold hadG at hfull
   omega
  rw[hb,if_pos rfl]
  exact⟨rfl,I,hs⟩
 ·rw[if_neg hfull]
  have hwle:w≤((frB (nowL st)).length:Int):=by unfold hadG at hfull;omega
  have hb:blkB (nowL st) w=true:=by rw[blkB,decide_eq_true_eq];exact⟨hw0,hwle⟩
  rw[hb,if_neg (by decide)]
  have hbl:blkL (nowL st) w=ofNats ((frB (nowL st)).take w.toNat):=by rw[blkL,if_pos hb]
  rw[hbl]
  obtain⟨f,hf⟩:∃f,(frB (nowL st)).take w.toNat=f:=⟨_,rfl⟩
  rw[hf]
  have hflen:f.length=w.toNat:=by rw[← hf,List.length_take];omega
  have G:Grow (nowL st) n o (bys b) f:={
   len:=F.len
   secs:=F.secs
   n16:=hn16
   kind:=hkd
   offs:=by omega
   room:=by rw[a0z];omega
   cnt:=by rw[hflen,a0z];omega
   free:=fun c hc=>by
    rw[← hf] at hc
    obtain⟨h1,h2⟩:=(b5r (nowL st) 25 c).1 (List.mem_of_mem_take hc)
    refine⟨?_,by omega,h2⟩
    by_cases h3:c=0
    ·rw[h3,used0] at h2;cases h2
    ·omega
   nodup:=by
    rw[← hf]
    exact((a9f (nowL st) 25).imp fun {a b} h=>Nat.ne_of_lt h).sublist (List.take_sublist _ _)
   bytes:=a4f b
   taken:=hkt }
  obtain⟨i1,i2,i3,i4,i5⟩:=G.img
  have hin:∀x∈blksW (nowL st) (n:Int) (gI (nowL st) n o (bys b) f) (hadG (nowL st) n) o (bys b) 4++(if gI (nowL st) n o (bys b) f=inoAt (nowL st) (n:Int) then [] else [wIno (n:Int) (gI (nowL st) n o (bys b) f)]),1≤x.pos∧x.pos<65:=fun x hx=>by
   rcases List.mem_append.1 hx with hx|hx
   ·have:=G.inB hx;omega
   ·split at hx
    ·cases hx
    ·rw[List.mem_singleton.1 hx];exact c9m hn16 _
  obtain⟨st',g1,g2,g3⟩:=a4l _ hs hin
  have g4:nowL st'=wrImg (nowL st) n o (bys b) (gI (nowL st) n o (bys b) f):=g3
  have hcall:doR st (blksW (nowL st) (n:Int) (grownI (inoAt (nowL st) (n:Int)) o b.size (ofNats f)) (need (inoAt (nowL st) (n:Int)).size.toNat) o (bys b) 4++if grownI (inoAt (nowL st) (n:Int)) o b.size (ofNats f)=inoAt (nowL st) (n:Int) then [] else [wIno (n:Int) (grownI (inoAt (nowL st) (n:Int)) o b.size (ofNats f))])=(0,st'):=by
   have e:grownI (inoAt (nowL st) (n:Int)) o b.size (ofNats f)=gI (nowL st) n o (bys b) f:=by rw[gI,a0z]
   rw[e];exact g1
  rw[hcall]
  refine⟨rfl,?_,g2⟩
  show Inv (nowL st') _
  rw[g4]
  have hA:Alike (nowL st) (wrImg (nowL st) n o (bys b) (gI (nowL st) n o (bys b) f)):=⟨by rw[i1,F.len],i2,i3,fun m=>by
   rw[i4]
   split
   ·rename_i e;rw[e];rfl
   ·rfl⟩
  have hne:∀j:Nat,j<24→j≠k→(entAt (nowL st) (j:Int)).used=true→(entAt (nowL st) (j:Int)).target≠(n:Int):=fun j hj hjk hju e=>hjk (F.tgt j k hj P.hk hju hsm.used (by rw[e,hn]))
  have hoff:∀j l:Nat,j<24→j≠k→(entAt (nowL st) (j:Int)).used=true→l<needAt (nowL st) j→∀q,q<newG (nowL st) n o (bys b)→(gI (nowL st) n o (bys b) f).b.getD q 0≠blkAt (nowL st) j l:=fun j l hj hjk hju hl q hq e=>by
   have hbi:=b1l hl
   by_cases e1:q<hadG (nowL st) n
   ·rw[G.old e1] at e
    have:blkAt (nowL st) k q=blkAt (nowL st) j l:=by rw[← e,blkAt,hn]
    exact hjk (I.blk k j q l P.hk hj hsm.used hju (by rw[hneedk];exact e1) hl this).symm
   ·obtain⟨c,c1,c2,_⟩:=G.fresh e1 hq
    rw[c2] at e
    obtain⟨c3,c4,c5⟩:=G.free c c1
    have:=(b5d F c3).2 (blkLs_mem.2 ⟨j,l,hj,hju,hl,by omega⟩)
    rw[this] at c5;cases c5
  refine⟨c2g I.sim hA P.hi P.hk hsm (fun j hj hjk hju h1 => ?_) _ ?_,fun a c l q ha hc hau hcu hl hq e => ?_,fun a ha hd => ?_⟩
  ·rw[i4,if_neg (hne j hj hjk hju)]
   obtain⟨f0,f1,f2⟩:=a3t F.secs _ h1
   unfold readL
   apply List.map_congr_left
   intro a ha
   have ha:=List.mem_range.1 ha
   have hb2:=f2 a (by omega)
   obtain⟨c,hc⟩:=Int.eq_ofNat_of_zero_le (show 0≤(inoAt (nowL st) (entAt (nowL st) (j:Int)).target).b.getD (a / 32) 0 by omega)
   unfold byteAt
   rw[hc,Int.toNat_natCast,i5 c (by omega),G.keep (c:=c) fun q hq e=>by
    refine hoff j (a / 32) hj hjk hju (by unfold needAt;exact a9i ha) q (G.hit hq) ?_
    rw[e,blkAt,hc]]
  ·rw[hn,i4,if_pos rfl,b3v,hrd]
   exact G.readN.symm
  ·rw[i3] at hau hcu
   have hA2:∀z:Nat,z<24→(entAt (nowL st) (z:Int)).used=true→z≠k→needAt (wrImg (nowL st) n o (bys b) (gI (nowL st) n o (bys b) f)) z=needAt (nowL st) z∧∀p,blkAt (wrImg (nowL st) n o (bys b) (gI (nowL st) n o (bys b) f)) z p=blkAt (nowL st) z p:=fun z hz hzu hzk=>by
    unfold needAt blkAt
    rw[i3,i4,if_neg (hne z hz hzk hzu)]
    exact⟨rfl,fun _=>rfl⟩
   have hK:needAt (wrImg (nowL st) n o (bys b) (gI (nowL st) n o (bys b) f)) k=newG (nowL st) n o (bys b)∧∀p,blkAt (wrImg (nowL st) n o (bys b) (gI (nowL st) n o (bys b) f)) k p=(gI (nowL st) n o (bys b) f).b.getD p 0:=by
    unfold needAt blkAt
    rw[i3,hn,i4,if_pos rfl]
    exact⟨rfl,fun _=>rfl⟩
   by_cases eak:a=k<;>by_cases eck:c=k
   ·rw[eak,eck]
   ·exfalso
    subst eak
    obtain⟨m1,m2⟩:=hA2 c hc hcu eck
    rw[hK.1] at hl
    rw[m1] at hq
    rw[hK.2,m2] at e
    exact hoff c q hc eck hcu hq l hl e
   ·exfalso
    subst eck
    obtain⟨m1,m2⟩:=hA2 a ha hau eak
    rw[hK.1] at hq
    rw[m1] at hl
    rw[hK.2,m2] at e
    exact hoff a l ha eak hau hl q hq e.symm
   ·obtain⟨m1,m2⟩:=hA2 a ha hau eak
    obtain⟨m3,m4⟩:=hA2 c hc hcu eck
    rw[m1] at hl
    rw[m3] at hq
    rw[m2,m4] at e
    exact I.blk a c l q ha hc hau hcu hl hq e
  ·rw[List.length_set] at ha
   by_cases e:a=i
   ·subst e
    rw[a2z ha] at hd
    have h3:(t.getD a nd0).dir=true:=hd
    rw[hsm.dir,hn,hkd] at h3
    exact absurd h3 (by decide)
   ·rw[getD_set_ne e] at hd ⊢
    exact I.flat a ha hd
theorem c4r{st:St}(hs:Sound st){t:List Nd}(I:Inv (nowL st) t)(s:ByteArray)(b:ByteArray):Both (tAppend t s b) (appendV st s (bys b)):=by
 obtain⟨e1,e2⟩:=b0x I.sim s
 unfold tAppend appendV
 rw[e1]
 by_cases h0:(fileV (nowL st) s).2.2=0
 case neg=>rw[if_pos h0,if_pos h0];exact⟨rfl,I,hs⟩
 rw[if_neg (a1o h0),if_neg (a1o h0)]
 obtain⟨fn,i,k,P⟩:=e2 h0
 have hsz:=b1r P
 have hw:=b9h hs I s (inoAt (nowL st) (entAt (nowL st) (k:Int)).target).size b
 rw[P.read,P.file]
 rw[← hsz] at hw ⊢
 exact hw
end fs
namespace fs
set_option maxRecDepth 100000
open Go.ChangeShapes Go.WideShapes Go.ChangeAt Go.RowKit
open rows
open sec
open dsk (a0d)
open ly
open pa
open lk
theorem c2i{w:World}{B:Nat}{e:TypeId}{sz n b c:Nat}{cs:List Value}(h:Own w B e sz (.slice (some ⟨b,0,none⟩) n c) n cs)(i:Nat)(u:Value):Own (w.setCell ⟨b,i,none⟩ u) B e sz (.slice (some ⟨b,0,none⟩) n c) n (cs.set i u):=by
 refine⟨by rw[List.length_set];exact h.1,?_⟩
 rcases h.2 with⟨h2,_⟩|⟨g,cap,cur,h1,h2,h3,h4,h5,h6,h7⟩
 ·cases h2
 ·cases h1
  refine Or.inr ⟨b,c,cur.setIfInBounds i u,rfl,h2,a0d h3 u,h4,h5,by rw[Array.size_setIfInBounds];exact h6,?_⟩
  rw[Array.toList_setIfInBounds,List.take_set,h7]
end fs
namespace fs
set_option maxRecDepth 100000
open Go.ChangeShapes Go.WideShapes Go.ChangeAt Go.RowKit
open rows
open sec
open ly
open pa
open lk
structure FAct where
 kind:Int
 p:ByteArray
 q:ByteArray
 n:Int
 b:List Int
 bad:List Int
def tDo(t:List Nd)(a:FAct):Int×List Nd :=
 if a.kind=0 then tMake t a.p false else if a.kind=1 then tMake t a.p true
 else if a.kind=2 then tWrite t a.p a.n (strOfNums a.b) else if a.kind=3 then tAppend t a.p (strOfNums a.b)
 else if a.kind=4 then tTrunc t a.p a.n else if a.kind=5 then tRename t a.p a.q else if a.kind=6 then tUnlink t a.p else (0,t)
def fDo(st:dsk.St)(a:FAct):Int×dsk.St :=
 if a.kind=0 then makeV st a.p 1 else if a.kind=1 then makeV st a.p 2
 else if a.kind=2 then writeFV st a.p a.n a.b else if a.kind=3 then appendV st a.p a.b
 else if a.kind=4 then truncV st a.p a.n else if a.kind=5 then renameV st a.p a.q else if a.kind=6 then unlinkV st a.p else (0,st)
theorem act_inv{st:dsk.St}(hs:Sound st){t:List Nd}(I:Inv (nowL st) t)(a:FAct)(hb:∀z∈a.b,0≤z∧z<256):Both (tDo t a) (fDo st a):=by
 have eb:bys (strOfNums a.b)=a.b:=a0o hb
 unfold tDo fDo
 by_cases h0:a.kind=0
 ·rw[if_pos h0,if_pos h0]
  exact c3t hs I a.p (kind:=1) (Or.inl rfl)
 rw[if_neg h0,if_neg h0]
 by_cases h1:a.kind=1
 ·rw[if_pos h1,if_pos h1]
  exact c3t hs I a.p (kind:=2) (Or.inr rfl)
 rw[if_neg h1,if_neg h1]
 by_cases h2:a.kind=2
 ·rw[if_pos h2,if_pos h2]
  have:=b9h hs I a.p a.n (strOfNums a.b)
  rwa [eb] at this
 rw[if_neg h2,if_neg h2]
 by_cases h3:a.kind=3
 ·rw[if_pos h3,if_pos h3]
  have:=c4r hs I a.p (strOfNums a.b)
  rwa [eb] at this
 rw[if_neg h3,if_neg h3]
 by_cases h4:a.kind=4
 ·rw[if_pos h4,if_pos h4]
  exact c6p hs I a.p a.n
 rw[if_neg h4,if_neg h4]
 by_cases h5:a.kind=5
 ·rw[if_pos h5,if_pos h5]
  exact c4l hs I a.p a.q
 rw[if_neg h5,if_neg h5]
 by_cases h6:a.kind=6
 ·rw[if_pos h6,if_pos h6]
  exact c6c hs I a.p
 rw[if_neg h6,if_neg h6]
 exact⟨rfl,I,hs⟩
theorem c7g:Inv emptyImg []:=by
 have hu:∀k:Nat,k<24→(entAt emptyImg (k:Int)).used=false:=by decide +kernel
 have hno:∀k:Nat,k<24→¬(entAt emptyImg (k:Int)).used=true:=fun k hk h=>by rw[hu k hk] at h;cases h
 refine⟨⟨⟨a1p,a1g,by decide +kernel,fun j k hj _ h=>absurd h (hno j hj),fun k hk h=>absurd h (hno k hk),fun j k hj _ h=>absurd h (hno j hj)⟩,fun k hk h=>absurd h (hno k hk),fun i hi=>absurd hi (Nat.not_lt_zero i),fun i j hi=>absurd hi (Nat.not_lt_zero i)⟩,fun j k i l hj _ h=>absurd h (hno j hj),fun i hi=>absurd hi (Nat.not_lt_zero i)⟩
end fs
namespace fs
set_option maxRecDepth 100000
open Go.ChangeShapes Go.WideShapes Go.ChangeAt Go.RowKit
open rows
open sec
open dsk (wf64)
open ly
open pa
open lk
theorem a6k{w:World}{v:Value}{n:Nat}{xs:List Int}(h:Rd w 1 v n (xs.map (Value.int .u8)))(hx:∀x∈xs,0≤x∧x<256):(convert 38 9 v).run Tryz.prog w = .ok (.string (strOfNums xs)) w:=by
 rcases h with⟨p,cap,rfl,rfl,h0,hp⟩|⟨b,off,cap,rfl,h2,h2a,h2b,h3,h4,h5⟩
 ·obtain rfl:xs=[]:=List.map_eq_nil_iff.1 h0
  cases p with
  | none=>exact run_convert_bytes_nil w 38 5 Tryz.underlying38 Tryz.underlying5 0 cap 9 Tryz.underlying9
  | some a =>
   rw[run_convert_bytes_string w 38 9 5 _ 0 cap Tryz.underlying38 Tryz.underlying5 Tryz.underlying9,run_bytesToString w _ 0 cap [] (by have:=run_loadCells_list (P:=Tryz.prog) w a [] (by simp);simpa using this),foldl_push_bytes]
   rfl
 ·have hn:n=xs.length:=by rw[List.length_map] at h4;omega
  subst hn
  exact run_convert_bytes_arg w 38 5 Tryz.underlying38 Tryz.underlying5 b off xs.length cap xs rfl (fun i hi=>h5 i _ (by simp[List.getD,hi])) 9 Tryz.underlying9
structure ActIn (w:World) (a:FAct) (vb vf:Value):Prop where
 kind:wf64 a.kind
 n:wf64 a.n
 p:a.p.size≤100
 q:a.q.size≤100
 bl:a.b.length≤300
 bb:∀z∈a.b,0≤z∧z<256
 rd:Rd w 1 vb a.b.length (a.b.map (Value.int .u8))
theorem ActIn.later{w w':World}{a:FAct}{vb vf:Value}(h:ActIn w a vb vf)(k:Below w.heap.size w w'):ActIn w' a vb vf:=⟨h.kind,h.n,h.p,h.q,h.bl,h.bb,h.rd.later k⟩
abbrev actC(a:FAct)(vb vf:Value):Array Value := #[.int .i64 a.kind,.string a.p,.string a.q,.int .i64 a.n,vb,vf]
end fs
end Go.Proofs.YtiaapfijbidgnaaGreatDoor
