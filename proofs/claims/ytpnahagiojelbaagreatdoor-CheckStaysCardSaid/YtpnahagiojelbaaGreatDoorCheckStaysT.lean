/- What CheckStays wants, part 20. -/
import Derived.Test.YtpnahagiojelbaaGreatDoorCheckStaysB
import Derived.Test.YtpnahagiojelbaaGreatDoorCheckStaysD
import Derived.Test.YtpnahagiojelbaaGreatDoorCheckStaysF
import Derived.Test.YtpnahagiojelbaaGreatDoorCheckStaysQ
import Derived.Test.YtpnahagiojelbaaGreatDoorCheckStaysS
import Derived.Laws.Cover1
set_option linter.unusedVariables false
set_option linter.unusedSimpArgs false
namespace Go.Proofs.YtpnahagiojelbaaGreatDoor
namespace lk
set_option maxRecDepth 100000
open Go.ChangeShapes Go.WideShapes Go.ChangeAt Go.RowKit
open rows
open sec
open ly
open pa
def ltS(a b:ByteArray):Bool:=Op.bytesLess a.toList b.toList
theorem d3y(x:List UInt8):∀(y:List UInt8),Op.bytesLess x y=decide (x<y):=by
 induction x with
 | nil=>intro y;cases y<;>simp[Op.bytesLess]
 | cons a x ih =>
  intro y
  cases y with
  | nil=>simp[Op.bytesLess]
  | cons b y =>
   simp only[Op.bytesLess,ih y,List.cons_lt_cons_iff,Bool.decide_or,Bool.decide_and]
   rcases Decidable.em (a<b) with h1|h1<;>rcases Decidable.em (a=b) with h2|h2<;>simp[h1,h2]
theorem ltS_eq(a b:ByteArray):ltS a b=decide (a.toList<b.toList):=d3y _ _
theorem str_ext{a b:ByteArray}(h:a.toList=b.toList):a=b:=by
 have h2:a.data.toList=b.data.toList:=by rw[← ByteArray.toList_eq,← ByteArray.toList_eq];exact h
 cases a;cases b
 simpa using h2
def nmIn(ss:List (List Int))(d:Int)(k:Nat)(x:ByteArray):Prop:=∃j,j<k∧standB ss j=true∧(entAt ss (j:Int)).parent=d∧(entAt ss (j:Int)).name=x
def atB(ss:List (List Int))(d:Int)(j:Nat):Bool:=standB ss j && decide ((entAt ss (j:Int)).parent=d)
def IsList(ss:List (List Int))(d:Int)(L:List ByteArray):Prop:=L.Pairwise (fun a b=>ltS a b=true)∧∀x,x∈L↔nmIn ss d 24 x
theorem b3a:Elem 40 9 1 16 (.string ByteArray.empty):=⟨Tryz.underlying40,by kernel_rfl,by decide,by decide,by decide⟩
def strV(L:List ByteArray):List Value:=L.map .string
end lk
namespace fs
set_option maxRecDepth 100000
open Go.ChangeShapes Go.WideShapes Go.ChangeAt Go.RowKit
open rows
open sec
open ly
open pa
open lk
structure Spot where
 dir:Int
 name:ByteArray
 k:Int
 is:Bool
def spot0:Spot:=⟨0,ByteArray.empty,0,false⟩
theorem b2x{ss:List (List Int)}(hs:Secs ss):∀(ns:List (List Int)) (n:Int),0≤n→n≤255→0≤(lookG ss n ns).1∧(lookG ss n ns).1≤255
 | [],n,h0,h1=>⟨h0,h1⟩
 | x::r,n,h0,h1=>by
  rw[lookG]
  split
  ·split
   ·rename_i k _
    obtain⟨_,_,h2,h3⟩:=a5j hs (k:Int)
    exact b2x hs r _ h2 h3
   ·exact⟨Int.le_refl _,by decide⟩
  ·exact⟨Int.le_refl _,by decide⟩
theorem a6u{ss:List (List Int)}(hs:Secs ss)(s:List Int):0≤(lookV ss s).1∧(lookV ss s).1≤255:=by
 unfold lookV
 split
 ·exact⟨Int.le_refl _,by decide⟩
 ·exact b2x hs _ 0 (Int.le_refl _) (by decide)
theorem d4q(s:List Int):(parL s).length≤36:=by
 unfold parL
 split
 ·rename_i x xs h
  obtain⟨_,h2,h3,_⟩:=a2i h
  have hm:∀y∈(x::xs).dropLast,y.length≤8:=fun y hy=>(b0f (h2 y (List.dropLast_subset _ hy))).2
  have hl:(x::xs).dropLast.length≤3:=by rw[List.length_dropLast];omega
  unfold joinP
  split
  ·simp
  ·have:=b8v 8 hm
   have h4:(x::xs).dropLast.length * (8+1)≤3 * 9:=Nat.mul_le_mul_right _ hl
   omega
 ·simp
def placeV(ss:List (List Int))(s:ByteArray):Spot×Int :=
 if errP (bys s)≠0 then (spot0,errP (bys s))
 else if (lookV ss (bys (strOfNums (parL (bys s))))).2≠0 then (spot0,(lookV ss (bys (strOfNums (parL (bys s))))).2)
 else if (inoAt ss (lookV ss (bys (strOfNums (parL (bys s))))).1).kind≠2 then (spot0,6)
 else (⟨(lookV ss (bys (strOfNums (parL (bys s))))).1,strOfNums (lastL (bys s)),(((findO ss (lookV ss (bys (strOfNums (parL (bys s))))).1 (strOfNums (lastL (bys s)))).getD 0:Nat):Int),(findO ss (lookV ss (bys (strOfNums (parL (bys s))))).1 (strOfNums (lastL (bys s)))).isSome⟩,0)
theorem b5q{fn:Func}{q p r:Tmp}{R:Ending→World→Prop}{a:Act}{w:World}(h:fn.results = #[.tmp q,.cell p 75,.tmp r])(g:Nat)(x:Ino)(u v:Value)(hu:a.tmps.getD q undef=u)(hp:a.tmps.getD p undef = .pointer (some ⟨g,0,none⟩))(hv:a.tmps.getD r undef=v)(hx:x.b.length=4)(hg:AtI w g x)
  (hd:a.defers=[]) (hR:R (.returned (.tuple #[u,aggI x,v])) w):bodyPost Tryz.prog fn R .ret a w:=by
 refine bodyPost_ret (v := .tuple #[u,aggI x,v]) ?_ hd hR
 have hp':a.tmps[p]?.getD undef = .pointer (some ⟨g,0,none⟩):=by simpa using hp
 have hu':a.tmps[q]?.getD undef=u:=by simpa using hu
 have hv':a.tmps[r]?.getD undef=v:=by simpa using hv
 have hl:=run_loadVar_row (P:=Tryz.prog) w g _ 75 _ _ _ hg a8y rfl (by rw[a5i];simp[a3g hx])
 simp[results,h,hp',hu',hv',asAddr,hl]
theorem b6z{w:World}{ops:Array Oper}{o:Oper}{a:Act}{K:Act→World→Prop}{Q:Exit→Act→World→Prop}{F:Prop}(hw:Region.wanted o (yielded ops a.tmps)=true)(p y:Operand)(ho:o.op = .store 75 p y)
  (g:Nat) (hp:a.eval p = .pointer (some ⟨g,0,none⟩)) (x:Ino) (hy:a.eval y=aggI x) (hx:x.b.length=4) (old:Ino) (hold:old.b.length=4) (hg:AtI w g old)
  (h:∀w',AtI w' g x→dsk.Touch (fun k=>k=g) w w'→K (a.put o.dst undef) w'):if Region.wanted o (yielded ops a.tmps)=true then Oper.wp Tryz.prog o a w K Q else F:=by
 rw[if_pos hw]
 exact wp_store_row 75 p y ho g x.c.toArray hp hy 75 _ hg (by rw[a5i];simp[a3g hx]) (by simp[a3g hx,a3g hold]) (by rw[List.all_toArray];exact c2w x)
  (h _ (setRow_heap w g _ _ _ _ hg) (dsk.a3f w g _))
def fileV(ss:List (List Int))(s:ByteArray):Int×Ino×Int :=
 if (lookV ss (bys s)).2≠0 then (0,ino0,(lookV ss (bys s)).2)
 else if (inoAt ss (lookV ss (bys s)).1).kind≠1 then (0,ino0,6)
 else ((lookV ss (bys s)).1,inoAt ss (lookV ss (bys s)).1,0)
def fileT(x:Int×Ino×Int):Value := .tuple #[.int .i64 x.1,aggI x.2.1,.int .i64 x.2.2]
end fs
namespace fs
set_option maxRecDepth 100000
open Go.ChangeShapes Go.WideShapes Go.ChangeAt Go.RowKit
open rows
open sec
open ly
open pa
open lk
def byteAt(ss:List (List Int))(x:Ino)(i:Nat):Int:=(ss.getD (40+(x.b.getD (i / 32) 0).toNat) zero32).getD (i % 32) 0
def readL(ss:List (List Int))(x:Ino):List Int:=(List.range x.size.toNat).map (byteAt ss x)
def readV(ss:List (List Int))(s:ByteArray):List Int×Int:=if (fileV ss s).2.2≠0 then ([],(fileV ss s).2.2) else (readL ss (fileV ss s).2.1,0)
theorem b5r{ss:List (List Int)}(hs:Secs ss)(z:Int)(h:(inoAt ss z).kind=1):0≤(inoAt ss z).size∧(inoAt ss z).size≤128∧∀i:Nat,(i:Int)<(inoAt ss z).size→1≤(inoAt ss z).b.getD (i / 32) 0∧(inoAt ss z).b.getD (i / 32) 0≤24:=by
 have hk0:ino0.kind≠1:=by decide
 unfold inoAt at h ⊢
 split
 ·rename_i hin
  rw[if_pos hin] at h
  rw[inoOfV] at h ⊢
  split
  ·rename_i hb
   rw[if_pos hb] at h
   rw[inoOfB,Bool.and_eq_true] at hb
   have hr:=hb.1
   rw[a1p h,Bool.and_eq_true,Bool.and_eq_true,decide_eq_true_eq,decide_eq_true_eq] at hr
   refine⟨hr.1.1,hr.1.2,fun i hi => ?_⟩
   have hn:i / 32<need (inoOf (secAt ss (1+z))).size.toNat:=by unfold need;omega
   have h4:=a5l (z:=(inoOf (secAt ss (1+z))).size.toNat) (by omega)
   have hbk:=b2h hr.2 (i / 32) (by omega)
   rw[a3p hn,Bool.and_eq_true,Bool.and_eq_true,decide_eq_true_eq,decide_eq_true_eq] at hbk
   exact hbk.1
  ·rename_i hb
   rw[if_neg hb] at h
   exact absurd h hk0
 ·rename_i hin
  rw[if_neg hin] at h
  exact absurd h hk0
theorem file_ok{ss:List (List Int)}(hs:Secs ss)(s:ByteArray)(h:(fileV ss s).2.2=0):∃z,(fileV ss s).2.1=inoAt ss z∧(inoAt ss z).kind=1:=by
 unfold fileV at h ⊢
 split at h
 ·rename_i he;exact absurd h he
 ·rename_i he
  split at h
  ·simp at h
  ·rename_i hk
   rw[if_neg he,if_neg hk]
   exact⟨_,rfl,by simpa using hk⟩
theorem a4k{ss:List (List Int)}(hs:Secs ss)(s:ByteArray):(fileV ss s).2.1.b.length=4:=by
 unfold fileV
 split
 ·rfl
 ·split
  ·rfl
  ·exact a0q hs _
end fs
namespace fs
set_option maxRecDepth 100000
open Go.ChangeShapes Go.WideShapes Go.ChangeAt Go.RowKit
open rows
open sec
open dsk (St Wr a3l)
open ly
open lk
def nowL(st:St):List (List Int):=over st.safe st.wait st.wait.length
theorem a9a{ss:List (List Int)}{ws:List Wr}(hs:Secs ss)(hw:∀x∈ws,Sec x.s):∀i,i≤ws.length→Secs (over ss ws i)
 | 0,_=>hs
 | i+1,h=>by
  rw[a5q (show i<ws.length by omega),wr1]
  split
  ·exact a3l (a9a hs hw i (by omega)) (hw _ (List.getElem_mem _)) _
  ·exact a9a hs hw i (by omega)
theorem c1w(ss:List (List Int))(ws:List Wr)(hp:∀x∈ws,0≤x.pos∧x.pos<(ss.length:Int)):∀k,k≤ws.length→dsk.outOf (fun _=>true) (ws.take k) ss=over ss ws k
 | 0,_=>rfl
 | k+1,h=>by
  have hk:k<ws.length:=by omega
  have ih:=c1w ss ws hp k (by omega)
  have hx:=hp _ (List.getElem_mem hk)
  rw[List.take_succ_eq_append_getElem hk,a5q hk,wr1,if_pos (by rw[b0a ss ws k (by omega)];exact hx),← ih]
  exact dsk.a5o ⟨ss,ws.take k,0,[],[],0⟩ ws[k]
theorem a6r(st:St)(hp:∀x∈st.wait,0≤x.pos∧x.pos<(st.safe.length:Int)):nowL st=dsk.seenOf st:=by
 have h:=c1w st.safe st.wait hp st.wait.length (Nat.le_refl _)
 rw[List.take_of_length_le (Nat.le_refl _)] at h
 exact h.symm
def mountV(st:St):Int:=if st.safe.length=0 then 1 else if mountsB (nowL st) then 0 else 8
theorem now_len(st:St):(nowL st).length=st.safe.length:=b0a _ _ _ (Nat.le_refl _)
theorem d2y{st:St}(hs:Secs st.safe)(hws:∀x∈st.wait,Sec x.s):Secs (nowL st):=a9a hs hws _ (Nat.le_refl _)
end fs
namespace fs
set_option maxRecDepth 100000
open Go.ChangeShapes Go.WideShapes Go.ChangeAt Go.RowKit
open rows
open sec
open dsk (St Wr writeR)
open ly
open lk
theorem a8w{k:Nat}{st:St}(h:st.good k)(i:Int)(s:List Int)(kd id:Int)(hs:Sec s):(writeR st i s kd id).2.good (k+1):=by
 unfold writeR
 split
 ·rename_i hin
  split
  ·exact⟨h.ss,h.n1,h.ws,h.es,by have:=h.wn;show st.wait.length≤k+1;omega,by have:=h.ln;show st.log.length≤k+1;omega,h.bn,⟨h.ep.1,by have:=h.ep.2;show st.ep≤((k+1:Nat):Int);omega⟩,⟨by have:=h.asked.1;show 0≤st.asked+1;omega,by have:=h.asked.2;show st.asked+1≤((k+1:Nat):Int);omega⟩⟩
  ·refine⟨h.ss,h.n1,fun y hy => ?_,fun e he => ?_,?_,?_,h.bn,⟨h.ep.1,by have:=h.ep.2;show st.ep≤((k+1:Nat):Int);omega⟩,⟨by have:=h.asked.1;show 0≤st.asked+1;omega,by have:=h.asked.2;show st.asked+1≤((k+1:Nat):Int);omega⟩⟩
   ·rcases List.mem_append.1 hy with hy|hy
    ·exact h.ws y hy
    ·rw[List.mem_singleton.1 hy];exact⟨hs,hin⟩
   ·rcases List.mem_append.1 he with he|he
    ·exact h.es e he
    ·rw[List.mem_singleton.1 he];exact⟨hs,Nat.zero_le _⟩
   ·have:=h.wn;simp;omega
   ·have:=h.ln;simp;omega
 ·exact⟨h.ss,h.n1,h.ws,h.es,by have:=h.wn;show st.wait.length≤k+1;omega,by have:=h.ln;show st.log.length≤k+1;omega,h.bn,⟨h.ep.1,by have:=h.ep.2;show st.ep≤((k+1:Nat):Int);omega⟩,⟨by have:=h.asked.1;show 0≤st.asked+1;omega,by have:=h.asked.2;show st.asked+1≤((k+1:Nat):Int);omega⟩⟩
theorem b5o:(Tryz.prog.info? 101).map (·.size)=some 2:=by kernel_rfl
theorem b3k{ops:Array Oper}{S:World→Prop}{op:Oper}{a:Act}(hw:Region.wanted op (yielded ops a.tmps)=true)(x:Operand)(ho:op.op = .load 101 x)
  (b o:Nat) (hx:a.eval x = .pointer (some ⟨b,o,none⟩)) (k id:Int) (hS:∀w,S w→w.cell? ⟨b,o,none⟩=some (.int .i64 k)∧w.cell? ⟨b,o+1,none⟩=some (.int .i64 id)):YieldsIf Tryz.prog ops S op (.agg #[.int .i64 k,.int .i64 id]) a :=
 yieldsIf_load_mid hw _ x ho b o hx [.int .i64 k,.int .i64 id] _ (fun w h j u hj=>by
  obtain⟨h1,h2⟩:=hS w h
  match j,hj with
  | 0,hj=>cases hj;exact h1
  | 1,hj=>cases hj;exact h2
  | j+2,hj=>simp at hj) Tryz.underlying101 rfl (by rw[b5o];rfl)
def doR(st:St):List Wr→Int×St
 | []=>(0,st)
 | x::r=>if (writeR st x.pos x.s x.kind x.id).1≠0 then writeR st x.pos x.s x.kind x.id else doR (writeR st x.pos x.s x.kind x.id).2 r
theorem c0m{ws:List Wr}(hw:∀x∈ws,Sec x.s):∀{k:Nat} {st:St},st.good k→(doR st ws).2.good (k+ws.length):=by
 induction ws with
 | nil=>intro k st h;exact h
 | cons x r ih =>
  intro k st h
  have h1:=a8w h x.pos x.s x.kind x.id (hw x (List.mem_cons_self ..))
  rw[doR]
  split
  ·exact⟨h1.ss,h1.n1,h1.ws,h1.es,by have:=h1.wn;simp;omega,by have:=h1.ln;simp;omega,h1.bn,⟨h1.ep.1,by have:=h1.ep.2;simp;omega⟩,⟨h1.asked.1,by have:=h1.asked.2;simp;omega⟩⟩
  ·have h2:=ih (fun y hy=>hw y (List.mem_cons_of_mem _ hy)) h1
   rw[List.length_cons,show k+(r.length+1)=k+1+r.length by omega]
   exact h2
end fs
namespace fs
set_option maxRecDepth 100000
open Go.ChangeShapes Go.WideShapes Go.ChangeAt Go.RowKit
open rows
open sec
open dsk (St Wr Wr.ok barrier)
open ly
open pa
open lk
open al
def wIno(n:Int)(x:Ino):Wr:=⟨1+n,inoV x,2,n,0⟩
def wEnt(k:Int)(x:Ent)(f:Int):Wr:=⟨17+k,entV x,3,f,0⟩
theorem c0r{n:Int}{x:Ino}(hn:0≤n∧n≤200)(hx:x.b.length=4):(wIno n x).ok:=⟨a2k hx,a0f (by show 0≤1+n∧1+n<256;omega),a0f (by show (0:Int)≤2∧(2:Int)<256;omega),a0f (by show 0≤n∧n<256;omega),a0f (by show (0:Int)≤0∧(0:Int)<256;omega)⟩
theorem b4z{k f:Int}{x:Ent}(hk:0≤k∧k≤200)(hf:0≤f∧f≤255):(wEnt k x f).ok:=⟨a1i x,a0f (by show 0≤17+k∧17+k<256;omega),a0f (by show (0:Int)≤3∧(3:Int)<256;omega),a0f (by show 0≤f∧f<256;omega),a0f (by show (0:Int)≤0∧(0:Int)<256;omega)⟩
def makeV(st:St)(s:ByteArray)(kind:Int):Int×St :=
 if (placeV (nowL st) s).2≠0 then ((placeV (nowL st) s).2,st)
 else if (placeV (nowL st) s).1.is then (5,st)
 else match frI (nowL st),frE (nowL st) with
  | some n,some k=>doR st [wIno (n:Int) ⟨kind,0,[0,0,0,0]⟩,wEnt (k:Int) ⟨true,(placeV (nowL st) s).1.dir,(placeV (nowL st) s).1.name,(n:Int)⟩ (placeV (nowL st) s).1.dir]
  | _,_=>(2,st)
def cutB(b:List Int)(j:Nat):List Int:=b.take j++List.replicate (4-j) 0
def truncV(st:St)(s:ByteArray)(z:Int):Int×St :=
 if (fileV (nowL st) s).2.2≠0 then ((fileV (nowL st) s).2.2,st)
 else if z<0∨(fileV (nowL st) s).2.1.size<z then (1,st)
 else if z=(fileV (nowL st) s).2.1.size then (0,st)
 else doR st [wIno (fileV (nowL st) s).1 ⟨(fileV (nowL st) s).2.1.kind,z,cutB (fileV (nowL st) s).2.1.b (need z.toNat)⟩]
def fullB(ss:List (List Int))(d:Int):Bool:=(List.range 24).any (atB ss d)
def unlinkV(st:St)(s:ByteArray):Int×St :=
 if (placeV (nowL st) s).2≠0 then ((placeV (nowL st) s).2,st)
 else if (placeV (nowL st) s).1.is=false then (4,st)
 else if (inoAt (nowL st) (entAt (nowL st) (placeV (nowL st) s).1.k).target).kind=2∧fullB (nowL st) (entAt (nowL st) (placeV (nowL st) s).1.k).target=true then (7,st)
 else doR st [wEnt (placeV (nowL st) s).1.k ent0 (placeV (nowL st) s).1.dir]
def deeperB(s t:ByteArray):Bool:=underB (bys t) (bys s) || decide ((nms (bys s)).length<(nms (bys t)).length)
def moveR(st:St)(x y:Wr):Int×St :=
 if (doR st [x]).1≠0 then doR st [x]
 else if (barrier (doR st [x]).2).1≠0 then barrier (doR st [x]).2
 else doR (barrier (doR st [x]).2).2 [y]
def renameV(st:St)(s t:ByteArray):Int×St :=
 let L:=nowL st
 let a:=(placeV L s).1
 let b:=(placeV L t).1
 let n:=(entAt L a.k).target
 let dir:=decide ((inoAt L n).kind=2)
 let x:Ent:=⟨true,b.dir,b.name,n⟩
 if errP (bys s)≠0 then (errP (bys s),st)
 else if errP (bys t)≠0 then (errP (bys t),st)
 else if (placeV L s).2≠0 then ((placeV L s).2,st)
 else if a.is=false then (4,st)
 else if (placeV L t).2≠0 then ((placeV L t).2,st)
 else if s=t∨(b.is=true∧b.k=a.k) then (0,st)
 else if dir=true∧deeperB s t=true then (1,st)
 else if b.is=true then
  if dir=true∨(inoAt L (entAt L b.k).target).kind=2 then (5,st)
  else moveR st (wEnt b.k x b.dir) (wEnt a.k ent0 a.dir)
 else if a.dir=b.dir then doR st [wEnt a.k x b.dir]
 else match frE L with
  | none=>(2,st)
  | some k=>moveR st (wEnt (k:Int) x b.dir) (wEnt a.k ent0 a.dir)
def grownI(x:Ino)(off m:Nat)(f:List Int):Ino:=⟨x.kind,max x.size (off+m:Nat),x.b.take (need x.size.toNat)++f++x.b.drop (need x.size.toNat+f.length)⟩
def hitB(off m i:Nat):Bool:=decide (0<m∧off<32 * i+32∧32 * i<off+m)
def putL(old:List Int)(off:Nat)(b:List Int)(i:Nat):List Int:=(List.range 32).map fun j=>if off≤32 * i+j∧32 * i+j<off+b.length then b.getD (32 * i+j-off) 0 else old.getD j 0
def blksW(L:List (List Int))(n:Int)(y:Ino)(had off:Nat)(b:List Int)(k:Nat):List Wr :=
 ((List.range k).filter (hitB off b.length)).map fun i=>⟨40+y.b.getD i 0,putL (if i<had then L.getD (40+y.b.getD i 0).toNat zero32 else zero32) off b i,1,n,0⟩
def writeFV(st:St)(s:ByteArray)(off:Int)(b:List Int):Int×St :=
 let L:=nowL st
 let x:=(fileV L s).2.1
 let n:=(fileV L s).1
 if (fileV L s).2.2≠0 then ((fileV L s).2.2,st)
 else if off<0∨x.size<off then (1,st)
 else if 128-off<(b.length:Int) then (2,st)
 else
  let w:=((need (max x.size (off+b.length)).toNat:Nat):Int)-(need x.size.toNat:Nat)
  if blkB L w=false then (2,st)
  else
   let y:=grownI x off.toNat b.length (blkL L w)
   doR st (blksW L n y (need x.size.toNat) off.toNat b 4++if y=x then [] else [wIno n y])
def appendV(st:St)(s:ByteArray)(b:List Int):Int×St :=
 if (fileV (nowL st) s).2.2≠0 then ((fileV (nowL st) s).2.2,st) else writeFV st s (fileV (nowL st) s).2.1.size b
end fs
namespace fs
set_option maxRecDepth 100000
open Go.ChangeShapes Go.WideShapes Go.ChangeAt Go.RowKit
open rows
open sec
open dsk (Wr Wr.c Wr.c_len w0 a1a a5d b7r b5k b0n)
open ly
open pa
open lk
theorem d0u(p k i:Int)(s:List Int)(h:Sec s):Tryz.prog.built 103 [(0,.int .i64 p),(1,.agg (u8s s).toArray),(2,.agg #[.int .i64 k,.int .i64 i])]=some (Wr.c ⟨p,s,k,i,0⟩).toArray:=by
 have hl:(u8s s).length=32:=by simp[u8s,h.1]
 have hz:(u8s zero32).length=32:=by simp[u8s,zero32]
 rw[a5d _ _ _ _ b7r b5k b0n]
 rw[a1a _ _ 0 0 1 _ [.int .i64 p] _ rfl rfl rfl (by rw[Wr.c_len a0i];omega)]
 have e0:(w0.c).take 0++[Value.int .i64 p]++(w0.c).drop (0+1) = .int .i64 p::(u8s zero32++[.int .i64 0,.int .i64 0,.int .i64 0]):=rfl
 rw[e0,a1a _ _ 1 1 32 _ (u8s s) _ rfl rfl hl (by simp[hz])]
 have e1:(Value.int .i64 p::(u8s zero32++[Value.int .i64 0,.int .i64 0,.int .i64 0])).take 1++u8s s++(Value.int .i64 p::(u8s zero32++[Value.int .i64 0,.int .i64 0,.int .i64 0])).drop (1+32) = .int .i64 p::(u8s s++[.int .i64 0,.int .i64 0,.int .i64 0]):=by
  rw[show 1+32=32+1 by omega,List.drop_succ_cons,List.drop_left' hz];rfl
 rw[e1,a1a _ _ 2 33 2 _ [.int .i64 k,.int .i64 i] _ rfl rfl rfl (by simp[hl])]
 have e2:(Value.int .i64 p::(u8s s++[Value.int .i64 0,.int .i64 0,.int .i64 0])).take 33++[Value.int .i64 k,.int .i64 i]++(Value.int .i64 p::(u8s s++[Value.int .i64 0,.int .i64 0,.int .i64 0])).drop (33+2) = .int .i64 p::(u8s s++[.int .i64 k,.int .i64 i,.int .i64 0]):=by
  rw[List.take_succ_cons,List.take_left' hl,show 33+2=(32+2)+1 by omega,List.drop_succ_cons,← List.drop_drop,List.drop_left' hl]
  simp
 rw[e2]
 rfl
end fs
namespace fs
set_option maxRecDepth 100000
open Go.ChangeShapes Go.WideShapes Go.ChangeAt Go.RowKit
open rows
open sec
open ly
open pa
open lk
open al
theorem a8t{ss:List (List Int)}(hs:Secs ss)(s:ByteArray):0≤(placeV ss s).1.dir∧(placeV ss s).1.dir≤255∧0≤(placeV ss s).1.k∧(placeV ss s).1.k<24:=by
 have h0:0≤spot0.dir∧spot0.dir≤255∧0≤spot0.k∧spot0.k<24:=by decide
 unfold placeV
 split
 ·exact h0
 ·split
  ·exact h0
  ·split
   ·exact h0
   ·have h1:=a6u hs (bys (strOfNums (parL (bys s))))
    refine⟨h1.1,h1.2,by simp,?_⟩
    cases hf:findO ss (lookV ss (bys (strOfNums (parL (bys s))))).1 (strOfNums (lastL (bys s))) with
    | none=>simp
    | some k=>have:=b4v hf;simp;omega
theorem c6c{ss:List (List Int)}{d:Int}{l:List ByteArray}(h:IsList ss d l):decide (0<(l.length:Int))=fullB ss d:=by
 rw[fullB,Bool.eq_iff_iff,decide_eq_true_eq,List.any_eq_true]
 constructor
 ·intro hl
  cases l with
  | nil=>simp at hl
  | cons x r =>
   obtain⟨j,h1,h2,h3,_⟩:=(h.2 x).1 (List.mem_cons_self ..)
   exact⟨j,List.mem_range.2 h1,by rw[atB,h2,h3];simp⟩
 ·rintro⟨j,h1,h2⟩
  rw[atB,Bool.and_eq_true,decide_eq_true_eq] at h2
  have:=(h.2 _).2 ⟨j,List.mem_range.1 h1,h2.1,h2.2,rfl⟩
  have:=List.length_pos_of_mem this
  omega
end fs
namespace fs
set_option maxRecDepth 100000
open Go.ChangeShapes Go.WideShapes Go.ChangeAt Go.RowKit
open rows
open sec
open dsk (St Wr.ok)
open ly
open pa
open lk
open al
theorem b6q{st:St}{k:Nat}(hg:st.good k):Secs (nowL st):=d2y hg.ss fun x hx=>(hg.ws x hx).1
theorem d1v(l:List Int):(lastL l).length≤8∧∀x∈lastL l,0≤x∧x<256:=by
 unfold lastL
 split
 ·rename_i n ns h
  have hm:(n::ns).getLastD []∈(n::ns):=by
   rw[List.getLastD_eq_getLast?,List.getLast?_eq_some_getLast (by simp),Option.getD_some]
   exact List.getLast_mem _
  have hn:=(a2i h).2.1 _ hm
  exact⟨(b0f hn).2,a3s hn⟩
 ·simp
theorem b2y(ss:List (List Int))(s:ByteArray):(placeV ss s).1.name.size≤8:=by
 have h0:spot0.name.size≤8:=by decide
 unfold placeV
 split
 ·exact h0
 ·split
  ·exact h0
  ·split
   ·exact h0
   ·obtain⟨h1,h2⟩:=d1v (bys s)
    show (strOfNums (lastL (bys s))).size≤8
    rw[← a2w,a1u h2]
    exact h1
theorem c4h{kind:Int}(h:0≤kind∧kind<256):(⟨kind,0,[0,0,0,0]⟩:Ino).ok:=⟨rfl,a0f h,a0f (by show (0:Int)≤0∧(0:Int)<256;omega),fun z hz=>by
 have:z=0:=by simpa using hz
 subst this
 exact a0f (by omega)⟩
end fs
namespace fs
set_option maxRecDepth 100000
open Go.ChangeShapes Go.WideShapes Go.ChangeAt Go.RowKit
open rows
open sec
open dsk (wf64 Wr.ok a0e)
open ly
open pa
open lk
open al
theorem c1h{ss:List (List Int)}(hs:Secs ss)(i:Int):(inoAt ss i).ok:=by
 unfold inoAt
 split
 ·exact d0x (a1e hs _)
 ·exact c9l
theorem b2i{ss:List (List Int)}(hs:Secs ss)(s:ByteArray)(h:(fileV ss s).2.2=0):(fileV ss s).2.1=inoAt ss (fileV ss s).1∧(inoAt ss (fileV ss s).1).kind=1∧0≤(fileV ss s).1∧(fileV ss s).1<16:=by
 unfold fileV at h ⊢
 split at h
 ·rename_i h1;exact absurd h h1
 ·rename_i h1
  rw[if_neg h1]
  split at h
  ·exact absurd h (by decide)
  ·rename_i h2
   rw[if_neg h2]
   have hk:(inoAt ss (lookV ss (bys s)).1).kind=1:=Decidable.not_not.1 h2
   refine⟨rfl,hk,?_⟩
   show 0≤(lookV ss (bys s)).1∧(lookV ss (bys s)).1<16
   unfold inoAt at hk
   split at hk
   ·assumption
   ·exact absurd hk (by decide)
theorem AtI.setS{w:World}{g:Nat}{x:Ino}(h:AtI w g x)(z:Int):AtI (w.setCell ⟨g,1,none⟩ (.int .i64 z)) g {x with size:=z}:=a0e h _
theorem cut_ok{x:Ino}(hx:x.ok){z:Int}(hz:wf64 z)(j:Nat)(hj:j≤4):(⟨x.kind,z,cutB x.b j⟩:Ino).ok:=⟨by simp[cutB,hx.four];omega,hx.kind,hz,fun y hy=>by
 rcases List.mem_append.1 hy with hy|hy
 ·exact hx.b y (List.mem_of_mem_take hy)
 ·rw[(List.mem_replicate.1 hy).2];exact a0f (by omega)⟩
theorem wf64_of(m:Nat)(h:m≤1000):wf64 (m:Int):=WalkArith.wf_i64 (by omega)
end fs
namespace fs
set_option maxRecDepth 100000
open sec
open ly
open lk
theorem a2l{ss:List (List Int)}{p:Nat}(hp:p<ss.length)(s:List Int)(i:Int):secAt (ss.set p s) i=if i=(p:Int) then s else secAt ss i:=by
 by_cases e:i=(p:Int)
 ·subst e
  rw[if_pos rfl,secAt,if_pos ⟨by omega,by rw[List.length_set];omega⟩]
  simp[List.getD,hp]
 ·rw[if_neg e,secAt,secAt,List.length_set]
  split
  ·rename_i h
   have:p≠i.toNat:=by omega
   simp[List.getD,List.getElem?_set,this]
  ·rfl
theorem a2m{ss:List (List Int)}(hs:Secs ss){s:List Int}(h:Sec s)(p:Nat):Secs (ss.set p s):=fun x hx=>by
 rcases List.mem_or_eq_of_mem_set hx with hx|rfl
 ·exact hs x hx
 ·exact h
def setE(ss:List (List Int))(k:Nat)(x:Ent):List (List Int):=ss.set (17+k) (entV x)
def setI(ss:List (List Int))(n:Nat)(x:Ino):List (List Int):=ss.set (1+n) (inoV x)
def setB(ss:List (List Int))(b:Nat)(s:List Int):List (List Int):=ss.set (40+b) s
theorem a4d(ss:List (List Int))(k:Nat)(x:Ent):(setE ss k x).length=ss.length:=List.length_set ..
theorem a6s(ss:List (List Int))(n:Nat)(x:Ino):(setI ss n x).length=ss.length:=List.length_set ..
theorem b7a{x:Ent}(h:rightE x=true):entOfV (entV x)=x:=by
 rw[entV,if_pos h,entOfV,if_pos (b1a h),b7g h]
theorem a7w{ss:List (List Int)}(hl:ss.length=65){k:Nat}(hk:k<24){x:Ent}(hx:rightE x=true)(j:Int):entAt (setE ss k x) j=if j=(k:Int) then x else entAt ss j:=by
 unfold entAt setE
 rw[a2l (by omega)]
 by_cases e:j=(k:Int)
 ·subst e
  rw[if_pos ⟨by omega,by omega⟩,if_pos (by omega),if_pos rfl,b7a hx]
 ·rw[if_neg e]
  split
  ·rw[if_neg (by omega)]
  ·rfl
theorem a2s{ss:List (List Int)}(hl:ss.length=65){k:Nat}(hk:k<24)(x:Ent)(j:Int):inoAt (setE ss k x) j=inoAt ss j:=by
 unfold inoAt setE
 split
 ·rw[a2l (by omega),if_neg (by omega)]
 ·rfl
theorem b6f{ss:List (List Int)}(hl:ss.length=65){n:Nat}(hn:n<16)(x:Ino)(j:Int):entAt (setI ss n x) j=entAt ss j:=by
 unfold entAt setI
 split
 ·rw[a2l (by omega),if_neg (by omega)]
 ·rfl
theorem d4c{ss:List (List Int)}(hl:ss.length=65){b:Nat}(hb:1≤b∧b≤24)(s:List Int)(j:Int):entAt (setB ss b s) j=entAt ss j:=by
 unfold entAt setB
 split
 ·rw[a2l (by omega),if_neg (by omega)]
 ·rfl
theorem d2w{ss:List (List Int)}(hl:ss.length=65){b:Nat}(hb:1≤b∧b≤24)(s:List Int)(j:Int):inoAt (setB ss b s) j=inoAt ss j:=by
 unfold inoAt setB
 split
 ·rw[a2l (by omega),if_neg (by omega)]
 ·rfl
theorem b7c{x:Ino}(h4:x.b.length=4)(h:rightI x=true):inoOfV (inoV x)=x:=by
 rw[inoV,if_pos h,inoOfV,if_pos (b9y h4 h),b4c h4]
theorem b5z{ss:List (List Int)}(hl:ss.length=65){n:Nat}(hn:n<16){x:Ino}(h4:x.b.length=4)(hx:rightI x=true)(j:Int):inoAt (setI ss n x) j=if j=(n:Int) then x else inoAt ss j:=by
 unfold inoAt setI
 rw[a2l (by omega)]
 by_cases e:j=(n:Int)
 ·subst e
  rw[if_pos ⟨by omega,by omega⟩,if_pos (by omega),if_pos rfl,b7c h4 hx]
 ·rw[if_neg e]
  split
  ·rw[if_neg (by omega)]
  ·rfl
end fs
namespace fs
set_option maxRecDepth 100000
open sec
open ly
open lk
open pa
theorem c7f(ss:List (List Int))(k:Int):rightE (entAt ss k)=true:=by
 unfold entAt
 split
 ·unfold entOfV
  split
  ·rename_i h
   rw[entOfB,Bool.and_eq_true] at h
   exact h.1
  ·exact a3u
 ·exact a3u
theorem a1b{ss:List (List Int)}{k:Int}(h:(entAt ss k).used=true):0≤(entAt ss k).parent∧(entAt ss k).parent<16∧1≤(entAt ss k).target∧(entAt ss k).target<16∧nameB (entAt ss k).name=true:=by
 have hr:=c7f ss k
 rw[a1t h] at hr
 simp only[Bool.and_eq_true,decide_eq_true_eq] at hr
 exact⟨hr.1.1.1.1,hr.1.1.1.2,hr.1.1.2,hr.1.2,hr.2⟩
structure Fit (ss:List (List Int)):Prop where
 len:ss.length=65
 secs:Secs ss
 root:(inoAt ss 0).kind=2
 tgt:∀j k:Nat,j<24→k<24→(entAt ss (j:Int)).used=true→(entAt ss (k:Int)).used=true→(entAt ss (j:Int)).target=(entAt ss (k:Int)).target→j=k
 live:∀k:Nat,k<24→(entAt ss (k:Int)).used=true→(inoAt ss (entAt ss (k:Int)).target).kind≠0
 uniq:∀j k:Nat,j<24→k<24→(entAt ss (j:Int)).used=true→(entAt ss (k:Int)).used=true→(entAt ss (j:Int)).parent=(entAt ss (k:Int)).parent→(entAt ss (j:Int)).name=(entAt ss (k:Int)).name→j=k
theorem c1c{ss:List (List Int)}(F:Fit ss){d:Int}{nm:ByteArray}{k:Nat}(hk:k<24):inB ss d nm k=true↔(entAt ss (k:Int)).used=true∧(entAt ss (k:Int)).parent=d∧(entAt ss (k:Int)).name=nm:=by
 rw[inB,standB]
 simp only[Bool.and_eq_true,decide_eq_true_eq,Bool.not_eq_true',decide_eq_false_iff_not]
 constructor
 ·rintro⟨⟨⟨h1,_⟩,h2⟩,h3⟩
  exact⟨h1,h2,h3⟩
 ·rintro⟨h1,h2,h3⟩
  exact⟨⟨⟨h1,F.live k hk h1⟩,h2⟩,h3⟩
theorem a3j{ss:List (List Int)}(F:Fit ss){d:Int}{nm:ByteArray}{k:Nat}:findO ss d nm=some k↔k<24∧(entAt ss (k:Int)).used=true∧(entAt ss (k:Int)).parent=d∧(entAt ss (k:Int)).name=nm:=by
 constructor
 ·intro h
  obtain⟨h1,h2,_⟩:=a2o h
  exact⟨h1,(c1c F h1).1 h2⟩
 ·rintro⟨h1,h2,h3,h4⟩
  cases hf:findO ss d nm with
  | none =>
   have:=upto_none.1 hf k h1
   rw[(c1c F h1).2 ⟨h2,h3,h4⟩] at this
   cases this
  | some j =>
   obtain⟨g1,g2,_⟩:=a2o hf
   obtain⟨g3,g4,g5⟩:=(c1c F g1).1 g2
   rw[F.uniq j k g1 h1 g3 h2 (by rw[g4,h3]) (by rw[g5,h4])]
theorem a8r{ss:List (List Int)}(F:Fit ss){d:Int}{nm:ByteArray}:findO ss d nm=none↔∀k:Nat,k<24→(entAt ss (k:Int)).used=true→(entAt ss (k:Int)).parent=d→(entAt ss (k:Int)).name≠nm:=by
 constructor
 ·intro h k hk h1 h2 h3
  rw[(a3j F).2 ⟨hk,h1,h2,h3⟩] at h
  cases h
 ·intro h
  cases hf:findO ss d nm with
  | none=>rfl
  | some j =>
   obtain⟨g1,g2,g3,g4⟩:=(a3j F).1 hf
   exact absurd g4 (h j g1 g2 g3)
theorem a7x{ss:List (List Int)}:∀(p q:List (List Int)) (n:Int),lookG ss n (p++q)=if (lookG ss n p).2=0 then lookG ss (lookG ss n p).1 q else lookG ss n p
 | [],q,n=>by rw[List.nil_append,lookG,if_pos rfl]
 | x::r,q,n=>by
  rw[List.cons_append,lookG,lookG]
  split
  ·split
   ·exact a7x r q _
   ·rw[if_neg (by decide)]
  ·rw[if_neg (by decide)]
theorem a4l{ss:List (List Int)}(F:Fit ss){p:List (List Int)}{x:List Int}{m:Int}(h:lookG ss 0 (p++[x])=(m,0)) :
  ∃k:Nat,k<24∧(entAt ss (k:Int)).used=true∧lookG ss 0 p=((entAt ss (k:Int)).parent,0)∧(inoAt ss (entAt ss (k:Int)).parent).kind=2∧(entAt ss (k:Int)).name=strOfNums x∧(entAt ss (k:Int)).target=m:=by
 rw[a7x] at h
 by_cases h0:(lookG ss 0 p).2=0
 ·rw[if_pos h0,lookG] at h
  by_cases hk:(inoAt ss (lookG ss 0 p).1).kind=2
  ·rw[if_pos hk] at h
   cases hf:findO ss (lookG ss 0 p).1 (strOfNums x) with
   | none=>rw[hf] at h;exact absurd (show (4:Int)=0 from congrArg Prod.snd h) (by decide)
   | some k =>
    rw[hf] at h
    obtain⟨h1,h2,h3,h4⟩:=(a3j F).1 hf
    have ht:(entAt ss (k:Int)).target=m:=congrArg Prod.fst h
    exact⟨k,h1,h2,Prod.ext h3.symm h0,by rw[h3];exact hk,h4,ht⟩
  ·rw[if_neg hk] at h
   exact absurd (show (6:Int)=0 from congrArg Prod.snd h) (by decide)
 ·rw[if_neg h0] at h
  rw[h] at h0
  exact absurd rfl h0
theorem b6y{ss:List (List Int)}(F:Fit ss){p:List (List Int)}{x:List Int}{k:Nat}(hk:k<24)(hu:(entAt ss (k:Int)).used=true)(hp:lookG ss 0 p=((entAt ss (k:Int)).parent,0))(hd:(inoAt ss (entAt ss (k:Int)).parent).kind=2)(hn:(entAt ss (k:Int)).name=strOfNums x):lookG ss 0 (p++[x])=((entAt ss (k:Int)).target,0):=by
 rw[a7x,hp,if_pos rfl,a8x hd ((a3j F).2 ⟨hk,hu,rfl,hn⟩)]
 rfl
theorem nm_inj{x y:List Int}(hx:isNm x=true)(hy:isNm y=true)(h:strOfNums x=strOfNums y):x=y:=by
 have:=congrArg bys h
 rwa [a1u (a3s hx),a1u (a3s hy)] at this
theorem b9s{ss:List (List Int)}(F:Fit ss):∀(l:Nat) (p q:List (List Int)) (m:Int),p.length≤l→(∀x∈p,isNm x=true)→(∀x∈q,isNm x=true)→lookG ss 0 p=(m,0)→lookG ss 0 q=(m,0)→p=q:=by
 intro l
 induction l with
 | zero =>
  intro p q m hl hp hq h1 h2
  obtain rfl:p=[]:=List.eq_nil_of_length_eq_zero (by omega)
  obtain rfl:(0:Int)=m:=congrArg Prod.fst h1
  rcases List.eq_nil_or_concat q with rfl|⟨q',y,rfl⟩
  ·rfl
  ·obtain⟨k,hk,hu,_,_,_,ht⟩:=a4l F (by simpa using h2)
   have:=(a1b hu).2.2.1
   omega
 | succ l ih =>
  intro p q m hl hp hq h1 h2
  rcases List.eq_nil_or_concat p with rfl|⟨p',x,rfl⟩
  ·exact ih [] q m (by simp) hp hq h1 h2
  ·obtain⟨k,hk,hu,hpp,_,hn,ht⟩:=a4l F (by simpa using h1)
   rcases List.eq_nil_or_concat q with rfl|⟨q',y,rfl⟩
   ·have h0:(0:Int)=m:=congrArg Prod.fst h2
    have:=(a1b hu).2.2.1
    omega
   ·obtain⟨j,hj,hv,hqq,_,hm,hs⟩:=a4l F (by simpa using h2)
    obtain rfl:k=j:=F.tgt k j hk hj hu hv (by rw[ht,hs])
    have hxy:x=y:=nm_inj (hp x (by simp)) (hq y (by simp)) (by rw[← hn,← hm])
    subst hxy
    have:=ih p' q' _ (by simp at hl;omega) (fun z hz=>hp z (by simp[hz])) (fun z hz=>hq z (by simp[hz])) hpp hqq
    rw[this]
end fs
namespace fs
set_option maxRecDepth 100000
open sec
open ly
open lk
open pa
structure Nd where
 path:ByteArray
 dir:Bool
 data:ByteArray
def nd0:Nd:=⟨ByteArray.empty,false,ByteArray.empty⟩
theorem a3z{p:List (List Int)}(h:∀x∈p,isNm x=true):∀z∈joinP p,0≤z∧z<256:=by
 unfold joinP
 split
 ·intro z hz
  have:z=47:=by simpa using hz
  omega
 ·intro z hz
  unfold joinL at hz
  obtain⟨l,hl,hz⟩:=List.mem_flatten.1 hz
  obtain⟨x,hx,rfl⟩:=List.mem_map.1 hl
  rcases List.mem_cons.1 hz with rfl|hz
  ·omega
  ·exact a3s (h x hx) z hz
end fs
namespace fs
set_option maxRecDepth 100000
open sec
open ly
open lk
open pa
open al
theorem c1u{ss:List (List Int)}{n:Nat}(h:frI ss=some n):1≤n∧n<16∧∀k:Nat,k<24→(entAt ss (k:Int)).used=true→(entAt ss (k:Int)).target≠(n:Int):=by
 obtain⟨h1,h2,_⟩:=a2o h
 have ht:takenB ss (n:Int)=false:=by simpa using h2
 rw[takenB,Bool.or_eq_false_iff] at ht
 have hn:(n:Int)≠0:=of_decide_eq_false ht.2
 refine⟨by omega,h1,fun k hk hu e => ?_⟩
 have h3:=ht.1
 rw[namedIn,List.any_eq_false] at h3
 exact h3 k (List.mem_range.2 hk) (by rw[hu,decide_eq_true e];rfl)
theorem b5l{ss:List (List Int)}{k:Nat}(h:frE ss=some k):k<24∧(entAt ss (k:Int)).used=false:=by
 obtain⟨h1,h2,_⟩:=a2o h
 exact⟨h1,by simpa using h2⟩
def madeL(ss:List (List Int))(n k:Nat)(kind:Int)(d:Int)(nm:ByteArray):List (List Int):=setE (setI ss n ⟨kind,0,[0,0,0,0]⟩) k ⟨true,d,nm,(n:Int)⟩
theorem c9o{kind:Int}(h:kind=1∨kind=2):rightI ⟨kind,0,[0,0,0,0]⟩=true:=by
 rcases h with rfl|rfl<;>decide
theorem c2v{ss:List (List Int)}(hl:ss.length=65){n k:Nat}(hn:n<16)(hn1:1≤n)(hk:k<24){kind d:Int}{nm:ByteArray}(hd:0≤d∧d<16)(hnm:nameB nm=true)(j:Int) :
  entAt (madeL ss n k kind d nm) j=if j=(k:Int) then ⟨true,d,nm,(n:Int)⟩ else entAt ss j:=by
 rw[madeL,a7w (by rw[a6s];exact hl) hk (by
  rw[a1t rfl]
  simp only[Bool.and_eq_true,decide_eq_true_eq]
  exact⟨⟨⟨⟨hd.1,hd.2⟩,by omega⟩,by omega⟩,hnm⟩),b6f hl hn]
theorem c1v{ss:List (List Int)}(hl:ss.length=65){n k:Nat}(hn:n<16)(hk:k<24){kind d:Int}{nm:ByteArray}(hkd:kind=1∨kind=2)(j:Int) :
  inoAt (madeL ss n k kind d nm) j=if j=(n:Int) then ⟨kind,0,[0,0,0,0]⟩ else inoAt ss j:=by
 rw[madeL,a2s (by rw[a6s];exact hl) hk,b5z hl hn rfl (c9o hkd)]
theorem d3d{ss:List (List Int)}(F:Fit ss){n k:Nat}(hn:frI ss=some n)(hk:frE ss=some k){kind d:Int}{nm:ByteArray}(hkd:kind=1∨kind=2)(hd:0≤d∧d<16)(hnm:nameB nm=true)(hno:findO ss d nm=none):Fit (madeL ss n k kind d nm):=by
 obtain⟨n1,n16,nt⟩:=c1u hn
 obtain⟨k24,ku⟩:=b5l hk
 have hE:=fun j=>c2v (kind:=kind) F.len n16 n1 k24 hd hnm j
 have hI:=fun j=>c1v (d:=d) (nm:=nm) F.len n16 k24 hkd j
 refine⟨by rw[madeL,a4d,a6s];exact F.len,a2m (a2m F.secs (a2k rfl) _) (a1i _) _,?_,?_,?_,?_⟩
 ·rw[hI,if_neg (by omega)];exact F.root
 ·intro i j hi hj hui huj ht
  by_cases ei:i=k<;>by_cases ej:j=k
  ·rw[ei,ej]
  ·rw[hE,hE,if_pos (by rw[ei]),if_neg (by omega)] at ht
   rw[hE,if_neg (by omega)] at huj
   exact absurd ht.symm (nt j hj huj)
  ·rw[hE,hE,if_neg (by omega),if_pos (by rw[ej])] at ht
   rw[hE,if_neg (by omega)] at hui
   exact absurd ht (nt i hi hui)
  ·rw[hE,hE,if_neg (by omega),if_neg (by omega)] at ht
   rw[hE,if_neg (by omega)] at hui huj
   exact F.tgt i j hi hj hui huj ht
 ·intro i hi hu
  by_cases ei:i=k
  ·rw[hE,if_pos (by rw[ei]),hI,if_pos rfl]
   rcases hkd with rfl|rfl<;>decide
  ·rw[hE,if_neg (by omega)] at hu ⊢
   rw[hI,if_neg (nt i hi hu)]
   exact F.live i hi hu
 ·intro i j hi hj hui huj hp hm
  by_cases ei:i=k<;>by_cases ej:j=k
  ·rw[ei,ej]
  ·rw[hE,hE,if_pos (by rw[ei]),if_neg (by omega)] at hp hm
   rw[hE,if_neg (by omega)] at huj
   exact absurd hm.symm ((a8r F).1 hno j hj huj hp.symm)
  ·rw[hE,hE,if_neg (by omega),if_pos (by rw[ej])] at hp hm
   rw[hE,if_neg (by omega)] at hui
   exact absurd hm ((a8r F).1 hno i hi hui hp)
  ·rw[hE,hE,if_neg (by omega),if_neg (by omega)] at hp hm
   rw[hE,if_neg (by omega)] at hui
   exact F.uniq i j hi hj hui (by rw[hE,if_neg (by omega)] at huj;exact huj) hp hm
theorem way_end{ss:List (List Int)}(F:Fit ss){p:List (List Int)}{m:Int}(h:lookG ss 0 p=(m,0)):m=0∨∃k:Nat,k<24∧(entAt ss (k:Int)).used=true∧(entAt ss (k:Int)).target=m:=by
 rcases List.eq_nil_or_concat p with rfl|⟨p',x,rfl⟩
 ·exact Or.inl (congrArg Prod.fst h).symm
 ·obtain⟨k,hk,hu,_,_,_,ht⟩:=a4l F (by simpa using h)
  exact Or.inr ⟨k,hk,hu,ht⟩
end fs
namespace fs
set_option maxRecDepth 100000
open sec
open ly
open lk
open pa
open al
theorem c8s:∀(a b:List Nat) (f:Nat→Nat),a.Nodup→(∀x∈a,∀y∈a,f x=f y→x=y)→(∀x∈a,f x∈b)→a.length≤b.length
 | [],b,f,_,_,_=>Nat.zero_le _
 | x::a,b,f,hn,hi,hb=>by
  rw[List.nodup_cons] at hn
  have h1:=hb x (List.mem_cons_self ..)
  have h2:=c8s a (b.erase (f x)) f hn.2 (fun y hy z hz=>hi y (List.mem_cons_of_mem _ hy) z (List.mem_cons_of_mem _ hz)) (fun y hy=>by
   refine(List.mem_erase_of_ne fun e => ?_).2 (hb y (List.mem_cons_of_mem _ hy))
   exact hn.1 (by rw[← hi y (List.mem_cons_of_mem _ hy) x (List.mem_cons_self ..) e];exact hy))
  rw[List.length_erase_of_mem h1] at h2
  have:=List.length_pos_of_mem h1
  rw[List.length_cons]
  omega
def usedL(ss:List (List Int)):List Nat:=(List.range 24).filter fun k=>(entAt ss (k:Int)).used
theorem usedL_mem{ss:List (List Int)}{k:Nat}:k∈usedL ss↔k<24∧(entAt ss (k:Int)).used=true:=by simp[usedL]
theorem b9c(ss:List (List Int)):(usedL ss).Nodup:=List.nodup_range.filter _
theorem d4s{ss:List (List Int)}(F:Fit ss):(usedL ss).length≤15:=by
 have:=c8s (usedL ss) (List.range 15) (fun k:Nat=>(entAt ss (k:Int)).target.toNat-1) (b9c ss) (fun x hx y hy e=>by
  obtain⟨x1,x2⟩:=usedL_mem.1 hx
  obtain⟨y1,y2⟩:=usedL_mem.1 hy
  have hx3:=a1b x2
  have hy3:=a1b y2
  exact F.tgt x y x1 y1 x2 y2 (by omega)) (fun x hx=>by
  obtain⟨x1,x2⟩:=usedL_mem.1 hx
  have:=a1b x2
  exact List.mem_range.2 (by show (entAt ss (x:Int)).target.toNat-1<15;omega))
 rwa [List.length_range] at this
theorem b8k{ss:List (List Int)}(F:Fit ss):∃k,frE ss=some k:=by
 cases h:frE ss with
 | some k=>exact⟨k,rfl⟩
 | none =>
  have h2:usedL ss=List.range 24:=List.filter_eq_self.2 fun k hk=>by
   have:=upto_none.1 h k (List.mem_range.1 hk)
   simpa using this
  have:=d4s F
  rw[h2,List.length_range] at this
  omega
end fs
namespace fs
set_option maxRecDepth 100000
open sec
open ly
open lk
open pa
open al
theorem a5y{ss:List (List Int)}(hl:ss.length=65){k:Nat}(hk:k<24)(j:Int):entAt (setE ss k ent0) j=if j=(k:Int) then ent0 else entAt ss j:=a7w hl hk a3u j
theorem b1w{ss:List (List Int)}(F:Fit ss){k:Nat}(hk:k<24):Fit (setE ss k ent0):=by
 have hE:=fun j=>a5y F.len hk j
 have hI:=fun j=>a2s F.len hk ent0 j
 have hu:∀j:Nat,(entAt (setE ss k ent0) (j:Int)).used=true→j≠k∧entAt (setE ss k ent0) (j:Int)=entAt ss (j:Int):=fun j h=>by
  by_cases e:j=k
  ·rw[hE,if_pos (by rw[e])] at h
   cases h
  ·exact⟨e,by rw[hE,if_neg (by omega)]⟩
 refine⟨by rw[a4d];exact F.len,a2m F.secs (a1i _) _,by rw[hI];exact F.root,fun i j hi hj h1 h2 h3 => ?_,fun i hi h1 => ?_,fun i j hi hj h1 h2 h3 h4 => ?_⟩
 ·have a1:=(hu i h1).2
  have a2:=(hu j h2).2
  rw[a1] at h1 h3
  rw[a2] at h2 h3
  exact F.tgt i j hi hj h1 h2 h3
 ·rw[hI]
  have a1:=(hu i h1).2
  rw[a1] at h1 ⊢
  exact F.live i hi h1
 ·have a1:=(hu i h1).2
  have a2:=(hu j h2).2
  rw[a1] at h1 h3 h4
  rw[a2] at h2 h3 h4
  exact F.uniq i j hi hj h1 h2 h3 h4
theorem c1p{ss:List (List Int)}(F:Fit ss){k:Nat}(hk:k<24)(hu:(entAt ss (k:Int)).used=true)(hno:∀j:Nat,j<24→(entAt ss (j:Int)).used=true→(entAt ss (j:Int)).parent≠(entAt ss (k:Int)).target) :
  ∀(l:Nat) (p:List (List Int)) (m:Int),p.length≤l→lookG ss 0 p=(m,0)→m≠(entAt ss (k:Int)).target→lookG (setE ss k ent0) 0 p=(m,0):=by
 have F':=b1w F hk
 intro l
 induction l with
 | zero =>
  intro p m hl h _
  obtain rfl:p=[]:=List.eq_nil_of_length_eq_zero (by omega)
  exact h
 | succ l ih =>
  intro p m hl h hm
  rcases List.eq_nil_or_concat p with rfl|⟨p',x,rfl⟩
  ·exact h
  ·obtain⟨j,hj,hju,hp,hd,hn,ht⟩:=a4l F (by simpa using h)
   have hjk:j≠k:=fun e=>hm (by rw[← ht,e])
   have e:entAt (setE ss k ent0) (j:Int)=entAt ss (j:Int):=by rw[a5y F.len hk,if_neg (by omega)]
   have h1:=ih p' _ (by simp at hl;omega) hp (hno j hj hju)
   have h2:=b6y F' (p:=p') (x:=x) (k:=j) hj (by rw[e];exact hju) (by rw[e];exact h1) (by rw[e,a2s F.len hk];exact hd) (by rw[e];exact hn)
   rw[e,ht] at h2
   simpa using h2
end fs
namespace fs
set_option maxRecDepth 100000
open sec
open ly
open lk
open pa
open al
def movedL(ss:List (List Int))(a k:Nat)(x:Ent):List (List Int):=if k=a then setE ss a x else setE (setE ss k x) a ent0
theorem b1i{ss:List (List Int)}(hl:ss.length=65){a k:Nat}(ha:a<24)(hk:k<24){x:Ent}(hx:rightE x=true)(j:Int):entAt (movedL ss a k x) j=if j=(k:Int) then x else if j=(a:Int) then ent0 else entAt ss j:=by
 unfold movedL
 by_cases e:k=a
 ·subst e
  rw[if_pos rfl,a7w hl hk hx]
  split<;>rfl
 ·rw[if_neg e,a7w (by rw[a4d];exact hl) ha a3u,a7w hl hk hx]
  by_cases ej:j=(k:Int)
  ·rw[if_pos ej,if_neg (by omega),if_pos ej]
  ·rw[if_neg ej,if_neg ej]
theorem a8b{ss:List (List Int)}(hl:ss.length=65){a k:Nat}(ha:a<24)(hk:k<24)(x:Ent)(j:Int):inoAt (movedL ss a k x) j=inoAt ss j:=by
 unfold movedL
 split
 ·rw[a2s hl ha]
 ·rw[a2s (by rw[a4d];exact hl) ha,a2s hl hk]
theorem setD_ne{l:List (List Int)}{p q:Nat}(h:p≠q)(s:List Int):(l.set p s).getD q zero32=l.getD q zero32:=by simp[List.getD,List.getElem?_set,h]
theorem c6v{ss:List (List Int)}(a k:Nat)(x:Ent):(movedL ss a k x).length=ss.length:=by
 unfold movedL
 split
 ·exact a4d ..
 ·rw[a4d,a4d]
theorem c5p{ss:List (List Int)}(hs:Secs ss)(a k:Nat)(x:Ent):Secs (movedL ss a k x):=by
 unfold movedL
 split
 ·exact a2m hs (a1i _) _
 ·exact a2m (a2m hs (a1i _) _) (a1i _) _
def mvX(ss:List (List Int))(a:Nat)(d:Int)(x:List Int):Ent:=⟨true,d,strOfNums x,(entAt ss (a:Int)).target⟩
theorem c7o{ss:List (List Int)}{d:Int}(h:(inoAt ss d).kind=2):0≤d∧d<16:=by
 unfold inoAt at h
 split at h
 ·assumption
 ·exact absurd h (by decide)
theorem c6z{p q:List (List Int)}(hp:∀y∈p,isNm y=true)(hq:∀y∈q,isNm y=true)(lp:p.length≤4)(lq:q.length≤4):underB (bys (strOfNums (joinP p))) (bys (strOfNums (joinP q)))=decide (q <+: p):=by
 rw[a1u (a3z hp),a1u (a3z hq),underB,a4p hp lp,a4p hq lq]
 show (decide (q.length≤p.length) && decide (p.take q.length=q))=_
 rw[← Bool.decide_and]
 refine decide_eq_decide.2 ⟨fun h => ?_,fun h=>⟨h.length_le,(List.prefix_iff_eq_take.1 h).symm⟩⟩
 rw[← h.2]
 exact List.take_prefix _ _
end fs
namespace fs
set_option maxRecDepth 100000
open sec
open ly
open lk
open pa
open al
structure Alike (ss ss':List (List Int)):Prop where
 len:ss'.length=ss.length
 secs:Secs ss'
 ent:∀j:Int,entAt ss' j=entAt ss j
 kind:∀m:Int,(inoAt ss' m).kind=(inoAt ss m).kind
theorem Alike.fit{ss ss':List (List Int)}(A:Alike ss ss')(F:Fit ss):Fit ss' where
 len:=by rw[A.len];exact F.len
 secs:=A.secs
 root:=by rw[A.kind];exact F.root
 tgt:=fun j k hj hk h1 h2 h3=>by
  rw[A.ent] at h1 h2 h3
  rw[A.ent] at h3
  exact F.tgt j k hj hk h1 h2 h3
 live:=fun k hk h=>by
  rw[A.ent] at h ⊢
  rw[A.kind];exact F.live k hk h
 uniq:=fun j k hj hk h1 h2 h3 h4=>by
  rw[A.ent,A.ent] at h3 h4
  rw[A.ent] at h1 h2
  exact F.uniq j k hj hk h1 h2 h3 h4
theorem getD_set_ne{t:List Nd}{i j:Nat}(h:j≠i)(a:Nd):(t.set i a).getD j nd0=t.getD j nd0:=by
 have h2:¬i=j:=fun e=>h e.symm
 simp[List.getD,List.getElem?_set,h2]
def needAt(ss:List (List Int))(k:Nat):Nat:=need (inoAt ss (entAt ss (k:Int)).target).size.toNat
def blkAt(ss:List (List Int))(k i:Nat):Int:=(inoAt ss (entAt ss (k:Int)).target).b.getD i 0
theorem a3r{ss:List (List Int)}(m:Int):rightI (inoAt ss m)=true:=by
 unfold inoAt
 split
 ·rw[inoOfV]
  split
  ·rename_i h
   rw[inoOfB,Bool.and_eq_true] at h
   exact h.1
  ·decide
 ·decide
theorem c8v{ss:List (List Int)}(m:Int):(inoAt ss m).kind=0∨(inoAt ss m).kind=1∨(inoAt ss m).kind=2:=by
 by_cases h0:(inoAt ss m).kind=0
 ·exact Or.inl h0
 ·by_cases h1:(inoAt ss m).kind=1
  ·exact Or.inr (Or.inl h1)
  ·by_cases h2:(inoAt ss m).kind=2
   ·exact Or.inr (Or.inr h2)
   ·have:=a3r (ss:=ss) m
    rw[a7d h0 h1 h2] at this
    cases this
theorem a5e{ss:List (List Int)}{m:Int}(h:(inoAt ss m).kind≠1):(inoAt ss m).size=0∧(inoAt ss m).b=[0,0,0,0]:=by
 have h02:(inoAt ss m).kind=0∨(inoAt ss m).kind=2:=by
  rcases c8v (ss:=ss) m with h0|h1|h2
  ·exact Or.inl h0
  ·exact absurd h1 h
  ·exact Or.inr h2
 have hr:=a3r (ss:=ss) m
 rw[a3d h02,Bool.and_eq_true,beq_iff_eq,beq_iff_eq] at hr
 exact hr
theorem a3w{ss:List (List Int)}(m:Int):0≤(inoAt ss m).size∧(inoAt ss m).size≤128:=by
 by_cases h:(inoAt ss m).kind=1
 ·have hr:=a3r (ss:=ss) m
  rw[a1p h,Bool.and_eq_true,Bool.and_eq_true,decide_eq_true_eq,decide_eq_true_eq] at hr
  exact hr.1
 ·rw[(a5e h).1];decide
theorem a8m{ss:List (List Int)}(m:Int):need (inoAt ss m).size.toNat≤4:=a5l (by have:=(a3w (ss:=ss) m);omega)
theorem a3m{ss:List (List Int)}{m:Int}(h:(inoAt ss m).kind=1){i:Nat}(hi:i<need (inoAt ss m).size.toNat):1≤(inoAt ss m).b.getD i 0∧(inoAt ss m).b.getD i 0≤24∧∀j,j<i→(inoAt ss m).b.getD j 0≠(inoAt ss m).b.getD i 0:=by
 have hr:=a3r (ss:=ss) m
 rw[a1p h,Bool.and_eq_true] at hr
 have h4:=a8m (ss:=ss) m
 have hb:=b2h hr.2 i (by omega)
 rw[a3p hi,Bool.and_eq_true,Bool.and_eq_true,decide_eq_true_eq,decide_eq_true_eq,Bool.not_eq_true'] at hb
 refine⟨hb.1.1,hb.1.2,fun j hj e => ?_⟩
 have hc:((inoAt ss m).b.take i).contains ((inoAt ss m).b.getD i 0)=true:=by
  rw[← e]
  by_cases hl:j<(inoAt ss m).b.length
  ·rw[List.contains_iff_mem,List.mem_take_iff_getElem]
   exact⟨j,by omega,by simp[List.getD,hl]⟩
  ·have h1:(inoAt ss m).b.getD j 0=0:=by simp[List.getD,hl]
   rw[h1] at e
   have:=hb.1.1
   omega
 rw[hc] at hb
 cases hb.2
theorem a8e{ss:List (List Int)}(hs:Secs ss){m:Int}{i:Nat}(hi:¬i<need (inoAt ss m).size.toNat):(inoAt ss m).b.getD i 0=0:=by
 by_cases h:(inoAt ss m).kind=1
 ·by_cases h4:i<4
  ·have hr:=a3r (ss:=ss) m
   rw[a1p h,Bool.and_eq_true] at hr
   have hb:=b2h hr.2 i h4
   rw[a4r hi,beq_iff_eq] at hb
   exact hb
  ·have h5:=a0q hs m
   have:(inoAt ss m).b.length≤i:=by omega
   simp[List.getD,this]
 ·rw[(a5e h).2]
  match i with
  | 0=>rfl
  | 1=>rfl
  | 2=>rfl
  | 3=>rfl
  | i+4=>rfl
end fs
namespace fs
set_option maxRecDepth 100000
open sec
open ly
open lk
open pa
open al
def Blk(ss:List (List Int)):Prop:=∀j k i l:Nat,j<24→k<24→(entAt ss (j:Int)).used=true→(entAt ss (k:Int)).used=true→i<needAt ss j→l<needAt ss k→blkAt ss j i=blkAt ss k l→j=k
def blkLs(ss:List (List Int)):List Nat:=(usedL ss).flatMap fun k=>(List.range (needAt ss k)).map fun i=>(blkAt ss k i).toNat
theorem b7o{ss:List (List Int)}{k i:Nat}(h:i<needAt ss k):(inoAt ss (entAt ss (k:Int)).target).kind=1:=by
 by_cases h1:(inoAt ss (entAt ss (k:Int)).target).kind=1
 ·exact h1
 ·unfold needAt at h
  rw[(a5e h1).1] at h
  have h0:need (Int.toNat 0)=0:=by decide
  omega
theorem d5b{ss:List (List Int)}{k i:Nat}(h:i<needAt ss k):1≤blkAt ss k i∧blkAt ss k i≤24∧∀j,j<i→blkAt ss k j≠blkAt ss k i:=a3m (b7o h) h
theorem blkLs_mem{ss:List (List Int)}{b:Nat}:b∈blkLs ss↔∃k i:Nat,k<24∧(entAt ss (k:Int)).used=true∧i<needAt ss k∧(blkAt ss k i).toNat=b:=by
 simp only[blkLs,List.mem_flatMap,List.mem_map,List.mem_range,usedL_mem]
 constructor
 ·rintro⟨k,⟨h1,h2⟩,i,h3,h4⟩;exact⟨k,i,h1,h2,h3,h4⟩
 ·rintro⟨k,i,h1,h2,h3,h4⟩;exact⟨k,⟨h1,h2⟩,i,h3,h4⟩
theorem d1m{ss:List (List Int)}(F:Fit ss){b:Nat}(h1:1≤b):usedB ss b=true↔b∈blkLs ss:=by
 have h0:(b == 0)=false:=beq_eq_false_iff_ne.2 (by omega)
 rw[usedB,h0,Bool.false_or,hasU,List.any_eq_true,blkLs_mem]
 constructor
 ·rintro⟨n,hn,h⟩
  rw[Bool.and_eq_true,liveB,Bool.and_eq_true,decide_eq_true_eq,takenB,Bool.or_eq_true,List.contains_iff_mem] at h
  obtain⟨⟨hk,ht⟩,hb⟩:=h
  rcases ht with ht|ht
  ·rw[namedIn,List.any_eq_true] at ht
   obtain⟨k,hk2,hu⟩:=ht
   rw[Bool.and_eq_true,decide_eq_true_eq] at hu
   obtain⟨i,hi,e⟩:=List.getElem_of_mem hb
   have e2:(inoAt ss (n:Int)).b.getD i 0=(b:Int):=by simp[List.getD,hi,e]
   have hin:i<need (inoAt ss (n:Int)).size.toNat:=by
    by_cases hin:i<need (inoAt ss (n:Int)).size.toNat
    ·exact hin
    ·rw[a8e F.secs hin] at e2
     omega
   exact⟨k,i,List.mem_range.1 hk2,hu.1,by rw[needAt,hu.2];exact hin,by rw[blkAt,hu.2,e2];omega⟩
  ·have h2:(n:Int)=0:=of_decide_eq_true ht
   rw[h2,F.root] at hk
   exact absurd hk (by decide)
 ·rintro⟨k,i,hk,hu,hi,e⟩
  have h3:=d5b hi
  have h4:=a1b hu
  have hkd:=b7o hi
  refine⟨(entAt ss (k:Int)).target.toNat,List.mem_range.2 (by omega),?_⟩
  have e2:(((entAt ss (k:Int)).target.toNat:Nat):Int)=(entAt ss (k:Int)).target:=by omega
  rw[Bool.and_eq_true,liveB,Bool.and_eq_true,decide_eq_true_eq,takenB,Bool.or_eq_true,List.contains_iff_mem,e2]
  refine⟨⟨hkd,Or.inl ?_⟩,?_⟩
  ·rw[namedIn,List.any_eq_true]
   exact⟨k,List.mem_range.2 hk,by rw[hu,decide_eq_true rfl];rfl⟩
  ·have hl:i<(inoAt ss (entAt ss (k:Int)).target).b.length:=by
    rw[a0q F.secs]
    have:=a8m (ss:=ss) (entAt ss (k:Int)).target
    unfold needAt at hi
    omega
   have e3:(b:Int)=(inoAt ss (entAt ss (k:Int)).target).b[i]:=by
    have:blkAt ss k i=(inoAt ss (entAt ss (k:Int)).target).b[i]:=by rw[blkAt];simp[List.getD,hl]
    omega
   rw[e3]
   exact List.getElem_mem hl
end fs
namespace fs
set_option maxRecDepth 100000
open sec
open ly
open lk
open pa
open al
open dsk (St Wr writeR barrier asks)
theorem a9k{x y:Int}(h:x=y):¬(x≠y):=fun hh=>hh h
structure Sound (st:St):Prop where
 bad:st.bad=[]
 len:st.safe.length=65
 top:(nowL st).getD 0 zero32=emptyImg.getD 0 zero32
theorem d4n{st:St}(h:Sound st):(nowL st).length=65:=by rw[nowL,b0a _ _ _ (Nat.le_refl _)];exact h.len
theorem c0n{st:St}(h:Sound st)(x:Wr)(h0:1≤x.pos)(h1:x.pos<65):∃st',writeR st x.pos x.s x.kind x.id=(0,st')∧Sound st'∧nowL st'=(nowL st).set x.pos.toNat x.s:=by
 have ha:asks st=false:=by unfold asks;rw[h.bad];simp
 have hin:0≤x.pos∧x.pos<(st.safe.length:Int):=by rw[h.len];exact⟨by omega,by omega⟩
 have key:over st.safe (st.wait++[⟨x.pos,x.s,x.kind,x.id,st.ep⟩]) (st.wait++[(⟨x.pos,x.s,x.kind,x.id,st.ep⟩:Wr)]).length=(nowL st).set x.pos.toNat x.s:=by
  rw[List.length_append,List.length_singleton,a5q (by simp),wr1]
  have e:over st.safe (st.wait++[⟨x.pos,x.s,x.kind,x.id,st.ep⟩]) st.wait.length=nowL st:=by
   rw[over,nowL,over,List.take_left' rfl,List.take_length]
  rw[e]
  have e2:(st.wait++[(⟨x.pos,x.s,x.kind,x.id,st.ep⟩:Wr)])[st.wait.length]'(by simp)=⟨x.pos,x.s,x.kind,x.id,st.ep⟩:=by simp
  rw[e2,if_pos ⟨by show 0≤x.pos;omega,by rw[d4n h];exact h1⟩]
 refine⟨{ st with asked:=st.asked+1,wait:=st.wait++[⟨x.pos,x.s,x.kind,x.id,st.ep⟩],log:=st.log++[(1,⟨x.pos,x.s,x.kind,x.id,st.ep⟩,[])] },by rw[writeR,if_pos hin,if_neg (by rw[ha];decide)],⟨h.bad,h.len,?_⟩,key⟩
 show (over st.safe (st.wait++[_]) (st.wait++[_]).length).getD 0 zero32=_
 rw[key,← h.top]
 have:x.pos.toNat≠0:=by omega
 simp[List.getD,List.getElem?_set,this]
def setsL(l:List (List Int))(ws:List Wr):List (List Int):=ws.foldl (fun l x=>l.set x.pos.toNat x.s) l
theorem a4c:∀(ws:List Wr) {st:St},Sound st→(∀x∈ws,1≤x.pos∧x.pos<65)→∃st',doR st ws=(0,st')∧Sound st'∧nowL st'=setsL (nowL st) ws
 | [],st,h,_=>⟨st,rfl,h,rfl⟩
 | x::r,st,h,hw=>by
  obtain⟨h0,h1⟩:=hw x (List.mem_cons_self ..)
  obtain⟨st1,e1,s1,n1⟩:=c0n h x h0 h1
  obtain⟨st2,e2,s2,n2⟩:=a4c r s1 fun y hy=>hw y (List.mem_cons_of_mem _ hy)
  refine⟨st2,?_,s2,?_⟩
  ·rw[doR,e1,if_neg (by simp)];exact e2
  ·rw[n2,n1];rfl
theorem a8n{st:St}(h:Sound st):∃st',barrier st=(0,st')∧Sound st'∧nowL st'=nowL st:=by
 have ha:asks st=false:=by unfold asks;rw[h.bad];simp
 exact⟨{ st with asked:=st.asked+1,ep:=st.ep+1,log:=st.log++[(3,dsk.w0,[])] },by rw[barrier,if_neg (by rw[ha];decide)],⟨h.bad,h.len,h.top⟩,rfl⟩
theorem b3s{st:St}(h:Sound st)(x y:Wr)(hx:1≤x.pos∧x.pos<65)(hy:1≤y.pos∧y.pos<65):∃st',moveR st x y=(0,st')∧Sound st'∧nowL st'=((nowL st).set x.pos.toNat x.s).set y.pos.toNat y.s:=by
 obtain⟨s1,e1,g1,n1⟩:=a4c [x] h (fun z hz=>by rw[List.mem_singleton.1 hz];exact hx)
 obtain⟨s2,e2,g2,n2⟩:=a8n g1
 obtain⟨s3,e3,g3,n3⟩:=a4c [y] g2 (fun z hz=>by rw[List.mem_singleton.1 hz];exact hy)
 refine⟨s3,?_,g3,?_⟩
 ·rw[moveR,e1,if_neg (by simp),e2,if_neg (by simp),e3]
 ·rw[n3,n2,n1];rfl
structure Spt (ss:List (List Int)) (s:ByteArray) (dn:List (List Int)) (x:List Int) (d:Int):Prop where
 path:s=strOfNums (joinP (dn++[x]))
 names:∀y∈dn++[x],isNm y=true
 few:(dn++[x]).length≤4
 way:lookG ss 0 dn=(d,0)
 dir:(inoAt ss d).kind=2
theorem c6t{l:List Int}(h:errP l=0):∃dn x,splitL l=some (dn++[x])∧parL l=joinP dn∧lastL l=x:=by
 unfold errP at h
 split at h
 ·rename_i n ns hs
  rcases List.eq_nil_or_concat (n::ns) with e|⟨dn,x,e⟩
  ·cases e
  ·rw[List.concat_eq_append] at e
   refine⟨dn,x,by rw[hs,e],?_,?_⟩
   ·unfold parL;rw[hs];simp only;rw[e,List.dropLast_concat]
   ·unfold lastL;rw[hs];simp only;rw[e];simp
 ·cases h
 ·cases h
theorem c8k{ss:List (List Int)}{dn:List (List Int)}(h:∀y∈dn,isNm y=true)(hl:dn.length≤4):lookV ss (bys (strOfNums (joinP dn)))=lookG ss 0 dn:=by
 rw[a1u (a3z h),lookV,a4p h hl]
theorem b4n{ss ss':List (List Int)}(B:Blk ss)(f:Nat→Nat)(h:∀j:Nat,j<24→(entAt ss' (j:Int)).used=true→0<needAt ss' j→f j<24∧(entAt ss (f j:Int)).used=true∧inoAt ss' (entAt ss' (j:Int)).target=inoAt ss (entAt ss (f j:Int)).target)
  (inj:∀j k:Nat,j<24→k<24→(entAt ss' (j:Int)).used=true→(entAt ss' (k:Int)).used=true→0<needAt ss' j→0<needAt ss' k→f j=f k→j=k):Blk ss':=by
 intro j k i l hj hk uj uk hi hl e
 obtain⟨j1,j2,j3⟩:=h j hj uj (by omega)
 obtain⟨k1,k2,k3⟩:=h k hk uk (by omega)
 have ej:needAt ss' j=needAt ss (f j):=by rw[needAt,needAt,j3]
 have ek:needAt ss' k=needAt ss (f k):=by rw[needAt,needAt,k3]
 refine inj j k hj hk uj uk (by omega) (by omega) (B (f j) (f k) i l j1 k1 j2 k2 (by omega) (by omega) ?_)
 rw[blkAt,blkAt,j3,k3] at e
 exact e
end fs
namespace fs
set_option maxRecDepth 100000
open sec
open ly
open lk
open pa
open al
theorem b9z(n:Nat)(x:Ino):(wIno (n:Int) x).pos.toNat=1+n:=by show (1+(n:Int)).toNat=1+n;omega
theorem a7m(k:Nat)(x:Ent)(f:Int):(wEnt (k:Int) x f).pos.toNat=17+k:=by show (17+(k:Int)).toNat=17+k;omega
theorem c2k{n:Nat}(h:n<16)(x:Ino):1≤(wIno (n:Int) x).pos∧(wIno (n:Int) x).pos<65:=by show 1≤1+(n:Int)∧1+(n:Int)<65;omega
theorem b0x{k:Nat}(h:k<24)(x:Ent)(f:Int):1≤(wEnt (k:Int) x f).pos∧(wEnt (k:Int) x f).pos<65:=by show 1≤17+(k:Int)∧17+(k:Int)<65;omega
end fs
namespace fs
set_option maxRecDepth 100000
open sec
open ly
open lk
open pa
open al
theorem c3p{p q:List (List Int)}(hp:∀y∈p,isNm y=true)(hq:∀y∈q,isNm y=true)(lp:p.length≤4)(lq:q.length≤4):deeperB (strOfNums (joinP p)) (strOfNums (joinP q))=(decide (p <+: q) || decide (p.length<q.length)):=by
 rw[deeperB,c6z hq hp lq lp,a1u (a3z hp),a1u (a3z hq),nms,nms,a4p hp lp,a4p hq lq]
 rfl
end fs
namespace fs
set_option maxRecDepth 100000
open sec
open ly
open lk
open pa
open al
theorem b5n{b:List Int}(h:b.length=4){m i:Nat}(hm:m≤4):(cutB b m).getD i 0=if i<m then b.getD i 0 else 0:=by
 unfold cutB
 have hl:(b.take m).length=m:=by simp;omega
 split
 ·rename_i hi
  rw[List.getD,List.getElem?_append_left (by omega),List.getElem?_take,if_pos hi];rfl
 ·rename_i hi
  rw[List.getD,List.getElem?_append_right (by omega),hl,List.getElem?_replicate]
  split<;>rfl
theorem c7u{b:List Int}(h:b.length=4){m i:Nat}(hm:m≤4)(hi:i≤m):(cutB b m).take i=b.take i:=by
 unfold cutB
 have hl:(b.take m).length=m:=by simp;omega
 rw[List.take_append_of_le_length (by omega),List.take_take,Nat.min_eq_left hi]
theorem b1p{a b:Nat}(h:a≤b):need a≤need b:=by unfold need;omega
theorem c8n{ss:List (List Int)}(hs:Secs ss){m:Int}(h:(inoAt ss m).kind=1){z:Nat}(hz:(z:Int)≤(inoAt ss m).size):rightI ⟨(inoAt ss m).kind,(z:Int),cutB (inoAt ss m).b (need z)⟩=true:=by
 have h4:=a0q hs m
 have hsz:=a3w (ss:=ss) m
 have hn4:need z≤4:=a5l (by omega)
 have hnm:need z≤need (inoAt ss m).size.toNat:=b1p (by omega)
 rw[a1p (x:=⟨(inoAt ss m).kind,(z:Int),cutB (inoAt ss m).b (need z)⟩) h,Bool.and_eq_true,Bool.and_eq_true,decide_eq_true_eq,decide_eq_true_eq]
 refine⟨⟨by show 0≤(z:Int);omega,by show (z:Int)≤128;omega⟩,?_⟩
 rw[blks,List.all_eq_true]
 intro i hi
 have hi:=List.mem_range.1 hi
 show blkOk (cutB (inoAt ss m).b (need z)) (need ((z:Int).toNat)) i=true
 rw[Int.toNat_natCast]
 by_cases hin:i<need z
 ·obtain⟨g1,g2,g3⟩:=a3m h (i:=i) (by omega)
  rw[a3p hin,b5n h4 hn4,if_pos hin,c7u h4 hn4 (by omega),Bool.and_eq_true,Bool.and_eq_true,decide_eq_true_eq,decide_eq_true_eq,Bool.not_eq_true']
  refine⟨⟨g1,g2⟩,?_⟩
  cases hc:((inoAt ss m).b.take i).contains ((inoAt ss m).b.getD i 0) with
  | false=>rfl
  | true =>
   rw[List.contains_iff_mem,List.mem_take_iff_getElem] at hc
   obtain⟨j,hj,e⟩:=hc
   exact absurd (by rw[← e];simp[List.getD,show j<(inoAt ss m).b.length by omega]) (g3 j (by omega))
 ·rw[a4r hin,b5n h4 hn4,if_neg hin]
  rfl
theorem b5a{t:List Nd}{i:Nat}(h:i<t.length):t.set i (t.getD i nd0)=t:=by
 apply List.ext_getElem
 ·simp
 ·intro j h1 h2
  rw[List.getElem_set]
  split
  ·rename_i e;subst e;simp[List.getD,h]
  ·rfl
end fs
namespace fs
set_option maxRecDepth 100000
open Go.ChangeShapes Go.WideShapes Go.ChangeAt Go.RowKit
open rows
open sec
open dsk (InS)
open ly
open pa
open lk
theorem d5d{w:World}{sz n:Nat}{v:Value}{cs:List Value}(h:Rd w sz v n cs):InS (fun b=>b<w.heap.size) v:=fun a m c hv hm=>by
 rcases h with⟨p,cap,h1,_⟩|⟨b,off,cap,h1,_,_,_,h2,_⟩
 ·rw[hv] at h1
  cases h1
  omega
 ·rw[hv] at h1
  cases h1
  exact h2
end fs
namespace fs
set_option maxRecDepth 100000
open sec
open ly
open lk
open pa
open al
open dsk (Wr)
structure Grow (L:List (List Int)) (n:Nat) (off:Nat) (b:List Int) (f:List Nat):Prop where
 len:L.length=65
 secs:Secs L
 n16:n<16
 kind:(inoAt L (n:Int)).kind=1
 offs:(off:Int)≤(inoAt L (n:Int)).size
 room:off+b.length≤128
 cnt:f.length+need (inoAt L (n:Int)).size.toNat=need (max (inoAt L (n:Int)).size (off+b.length:Nat)).toNat
 free:∀c∈f,1≤c∧c≤24∧usedB L c=false
 nodup:f.Nodup
 bytes:∀z∈b,0≤z∧z<256
 taken:takenB L (n:Int)=true
def gI(L:List (List Int))(n off:Nat)(b:List Int)(f:List Nat):Ino:=grownI (inoAt L (n:Int)) off b.length (ofNats f)
def hadG(L:List (List Int))(n:Nat):Nat:=need (inoAt L (n:Int)).size.toNat
def newG(L:List (List Int))(n off:Nat)(b:List Int):Nat:=need (max (inoAt L (n:Int)).size (off+b.length:Nat)).toNat
section
variable {L:List (List Int)} {n off:Nat} {b:List Int} {f:List Nat}
theorem Grow.sz(G:Grow L n off b f):0≤(inoAt L (n:Int)).size∧(inoAt L (n:Int)).size≤128:=a3w _
theorem Grow.gsize(G:Grow L n off b f):(gI L n off b f).size=max (inoAt L (n:Int)).size (off+b.length:Nat):=rfl
theorem Grow.new4(G:Grow L n off b f):newG L n off b≤4:=a5l (by have:=G.sz;have:=G.room;omega)
theorem Grow.fl(G:Grow L n off b f):f.length+hadG L n=newG L n off b:=G.cnt
theorem Grow.four(G:Grow L n off b f):(inoAt L (n:Int)).b.length=4:=a0q G.secs _
theorem Grow.bl(G:Grow L n off b f):(gI L n off b f).b.length=4:=by
 have h1:=G.fl
 have h2:=G.new4
 have h4:=G.four
 show ((inoAt L (n:Int)).b.take (hadG L n)++ofNats f++(inoAt L (n:Int)).b.drop (hadG L n+(ofNats f).length)).length=4
 rw[List.length_append,List.length_append,List.length_take,List.length_drop,a2z,h4]
 omega
theorem Grow.at_(G:Grow L n off b f)(i:Nat):(gI L n off b f).b.getD i 0=if i<hadG L n then (inoAt L (n:Int)).b.getD i 0 else if i<newG L n off b then ((f.getD (i-hadG L n) 0:Nat):Int) else 0:=by
 have h1:=G.fl
 have h2:=G.new4
 have h4:=G.four
 show ((inoAt L (n:Int)).b.take (hadG L n)++ofNats f++(inoAt L (n:Int)).b.drop (hadG L n+(ofNats f).length)).getD i 0=_
 have hl:((inoAt L (n:Int)).b.take (hadG L n)).length=hadG L n:=by rw[List.length_take];omega
 have hl2:((inoAt L (n:Int)).b.take (hadG L n)++ofNats f).length=newG L n off b:=by rw[List.length_append,hl,a2z];omega
 by_cases e1:i<hadG L n
 ·rw[if_pos e1,List.getD,List.getElem?_append_left (by omega),List.getElem?_append_left (by omega),List.getElem?_take,if_pos e1];rfl
 ·rw[if_neg e1]
  by_cases e2:i<newG L n off b
  ·rw[if_pos e2,List.getD,List.getElem?_append_left (by omega),List.getElem?_append_right (by omega),hl]
   have:i-hadG L n<f.length:=by omega
   simp[ofNats,List.getD,this]
  ·rw[if_neg e2,List.getD,List.getElem?_append_right (by omega),hl2,List.getElem?_drop,a2z]
   have h5:=a8e G.secs (m:=(n:Int)) (i:=hadG L n+f.length+(i-newG L n off b)) (by show ¬_<hadG L n;omega)
   exact h5
theorem Grow.old(G:Grow L n off b f){i:Nat}(h:i<hadG L n):(gI L n off b f).b.getD i 0=(inoAt L (n:Int)).b.getD i 0:=by rw[G.at_,if_pos h]
theorem Grow.fresh(G:Grow L n off b f){i:Nat}(h:¬i<hadG L n)(h2:i<newG L n off b):∃c:Nat,c∈f∧(gI L n off b f).b.getD i 0=(c:Int)∧f[i-hadG L n]? = some c:=by
 have h1:=G.fl
 have hl:i-hadG L n<f.length:=by omega
 refine⟨f[i-hadG L n],List.getElem_mem hl,?_,by simp[hl]⟩
 rw[G.at_,if_neg h,if_pos h2]
 simp[List.getD,hl]
theorem Grow.inuse(G:Grow L n off b f){i:Nat}(h:i<hadG L n):∃c:Nat,(inoAt L (n:Int)).b.getD i 0=(c:Int)∧1≤c∧c≤24∧usedB L c=true:=by
 obtain⟨g1,g2,_⟩:=a3m G.kind h
 obtain⟨c,hc⟩:=Int.eq_ofNat_of_zero_le (show 0≤(inoAt L (n:Int)).b.getD i 0 by omega)
 refine⟨c,hc,by omega,by omega,?_⟩
 rw[usedB,hasU,Bool.or_eq_true,List.any_eq_true]
 refine Or.inr ⟨n,List.mem_range.2 G.n16,?_⟩
 rw[Bool.and_eq_true,liveB,Bool.and_eq_true,decide_eq_true_eq,List.contains_iff_mem]
 have h4:=G.four
 have hn:=G.new4
 have hf:=G.fl
 refine⟨⟨G.kind,G.taken⟩,?_⟩
 have hl:i<(inoAt L (n:Int)).b.length:=by omega
 rw[← hc]
 simp only[List.getD,List.getElem?_eq_getElem hl,Option.getD_some]
 exact List.getElem_mem hl
theorem Grow.pos(G:Grow L n off b f){i:Nat}(h:i<newG L n off b):∃c:Nat,(gI L n off b f).b.getD i 0=(c:Int)∧1≤c∧c≤24:=by
 by_cases e:i<hadG L n
 ·obtain⟨c,h1,h2,h3,_⟩:=G.inuse e
  exact⟨c,by rw[G.old e];exact h1,h2,h3⟩
 ·obtain⟨c,h1,h2,_⟩:=G.fresh e h
  obtain⟨h3,h4,_⟩:=G.free c h1
  exact⟨c,h2,h3,h4⟩
theorem Grow.inj(G:Grow L n off b f){i j:Nat}(hi:i<newG L n off b)(hj:j<newG L n off b)(h:(gI L n off b f).b.getD i 0=(gI L n off b f).b.getD j 0):i=j:=by
 have hf:=G.fl
 by_cases ei:i<hadG L n<;>by_cases ej:j<hadG L n
 ·rw[G.old ei,G.old ej] at h
  rcases Nat.lt_trichotomy i j with hl|hl|hl
  ·exact absurd h ((a3m G.kind ej).2.2 i hl)
  ·exact hl
  ·exact absurd h.symm ((a3m G.kind ei).2.2 j hl)
 ·obtain⟨c,c1,_,_,c2⟩:=G.inuse ei
  obtain⟨e,e1,e2,_⟩:=G.fresh ej hj
  rw[G.old ei,c1,e2] at h
  have:c=e:=by omega
  subst this
  rw[(G.free c e1).2.2] at c2;cases c2
 ·obtain⟨c,c1,_,_,c2⟩:=G.inuse ej
  obtain⟨e,e1,e2,_⟩:=G.fresh ei hi
  rw[G.old ej,c1,e2] at h
  have:c=e:=by omega
  subst this
  rw[(G.free c e1).2.2] at c2;cases c2
 ·obtain⟨c,c1,c2,c3⟩:=G.fresh ei hi
  obtain⟨e,e1,e2,e3⟩:=G.fresh ej hj
  rw[c2,e2] at h
  have:c=e:=by omega
  subst this
  have hil:i-hadG L n<f.length:=by omega
  have hjl:j-hadG L n<f.length:=by omega
  rw[List.getElem?_eq_getElem hil] at c3
  rw[List.getElem?_eq_getElem hjl] at e3
  have heq:f[i-hadG L n]=f[j-hadG L n]:=(Option.some.inj c3).trans (Option.some.inj e3).symm
  have hnd:=List.pairwise_iff_getElem.1 G.nodup
  rcases Nat.lt_trichotomy (i-hadG L n) (j-hadG L n) with hl|hl|hl
  ·exact absurd heq (hnd _ _ hil hjl hl)
  ·omega
  ·exact absurd heq.symm (hnd _ _ hjl hil hl)
theorem Grow.right(G:Grow L n off b f):rightI (gI L n off b f)=true:=by
 have hk:(gI L n off b f).kind=1:=G.kind
 have hs:=G.sz
 have hr:=G.room
 have hsz:=G.gsize
 rw[a1p hk,Bool.and_eq_true,Bool.and_eq_true,decide_eq_true_eq,decide_eq_true_eq]
 refine⟨⟨by rw[hsz];omega,by rw[hsz];omega⟩,?_⟩
 rw[blks,List.all_eq_true]
 intro i hi
 show blkOk (gI L n off b f).b (newG L n off b) i=true
 by_cases e:i<newG L n off b
 ·obtain⟨c,c1,c2,c3⟩:=G.pos e
  rw[a3p e,c1,Bool.and_eq_true,Bool.and_eq_true,decide_eq_true_eq,decide_eq_true_eq,Bool.not_eq_true']
  refine⟨⟨by omega,by omega⟩,?_⟩
  cases hc:((gI L n off b f).b.take i).contains (c:Int) with
  | false=>rfl
  | true =>
   rw[List.contains_iff_mem,List.mem_take_iff_getElem] at hc
   obtain⟨j,hj,e2⟩:=hc
   have hjl:j<(gI L n off b f).b.length:=by omega
   have:=G.inj (i:=j) (j:=i) (by omega) e (by rw[c1,← e2];simp[List.getD,hjl])
   omega
 ·rw[a4r e,G.at_,if_neg (by have:=G.fl;omega),if_neg e];rfl
theorem Grow.hit(G:Grow L n off b f){i:Nat}(h:hitB off b.length i=true):i<newG L n off b:=by
 rw[hitB,decide_eq_true_eq] at h
 have hs:=G.sz
 unfold newG need
 omega
def oldS(L:List (List Int))(n:Nat)(y:Ino)(i:Nat):List Int:=if i<hadG L n then L.getD (40+y.b.getD i 0).toNat zero32 else zero32
def blkImg(L:List (List Int))(n off:Nat)(b:List Int)(y:Ino):List (List Int):=setsL L (blksW L (n:Int) y (hadG L n) off b 4)
theorem c1t:∀(ws:List Wr) (l:List (List Int)),(setsL l ws).length=l.length
 | [],l=>rfl
 | x::r,l=>by
  show (setsL (l.set x.pos.toNat x.s) r).length=_
  rw[c1t r,List.length_set]
theorem b7x:∀(ws:List Wr) (l:List (List Int)),Secs l→(∀x∈ws,Sec x.s)→Secs (setsL l ws)
 | [],l,h,_=>h
 | x::r,l,h,hw=>b7x r _ (a2m h (hw x (List.mem_cons_self ..)) _) fun y hy=>hw y (List.mem_cons_of_mem _ hy)
theorem blksW_mem{y:Ino}{x:Wr}:x∈blksW L (n:Int) y (hadG L n) off b 4↔∃i,i<4∧hitB off b.length i=true∧x=⟨40+y.b.getD i 0,putL (oldS L n y i) off b i,1,n,0⟩:=by
 unfold blksW oldS
 rw[List.mem_map]
 constructor
 ·rintro⟨i,hi,rfl⟩
  obtain⟨h1,h2⟩:=List.mem_filter.1 hi
  exact⟨i,List.mem_range.1 h1,h2,rfl⟩
 ·rintro⟨i,h1,h2,rfl⟩
  exact⟨i,List.mem_filter.2 ⟨List.mem_range.2 h1,h2⟩,rfl⟩
theorem c1i{old:List Int}(h:Sec old){b:List Int}(hb:∀z∈b,0≤z∧z<256)(off i:Nat):Sec (putL old off b i):=by
 refine⟨by simp[putL],fun z hz => ?_⟩
 unfold putL at hz
 obtain⟨j,hj,rfl⟩:=List.mem_map.1 hz
 split
 ·rename_i hin
  have hl:32 * i+j-off<b.length:=by omega
  simp only[List.getD,List.getElem?_eq_getElem hl,Option.getD_some]
  exact hb _ (List.getElem_mem hl)
 ·exact a1q h j
theorem b2o{l:List (List Int)}(h:Secs l)(p:Nat):Sec (l.getD p zero32):=by
 by_cases hp:p<l.length
 ·simp only[List.getD,List.getElem?_eq_getElem hp,Option.getD_some]
  exact h _ (List.getElem_mem hp)
 ·simp only[List.getD,List.getElem?_eq_none (Nat.le_of_not_lt hp),Option.getD_none]
  exact a0i
theorem d2q(hs:Secs L)(y:Ino)(i:Nat):Sec (oldS L n y i):=by
 unfold oldS
 split
 ·exact b2o hs _
 ·exact a0i
theorem Grow.secsB(G:Grow L n off b f):Secs (blkImg L n off b (gI L n off b f)):=by
 refine b7x _ _ G.secs fun x hx => ?_
 obtain⟨i,_,_,rfl⟩:=blksW_mem.1 hx
 exact c1i (d2q G.secs _ _) G.bytes _ _
theorem Grow.inB(G:Grow L n off b f){x:Wr}(hx:x∈blksW L (n:Int) (gI L n off b f) (hadG L n) off b 4):41≤x.pos∧x.pos<65:=by
 obtain⟨i,_,h,rfl⟩:=blksW_mem.1 hx
 obtain⟨c,c1,c2,c3⟩:=G.pos (G.hit h)
 show 41≤40+(gI L n off b f).b.getD i 0∧40+(gI L n off b f).b.getD i 0<65
 omega
end
end fs
namespace fs
set_option maxRecDepth 100000
open sec
open ly
open lk
open pa
open al
open dsk (Wr)
theorem b2c:∀(ws:List Wr) (l:List (List Int)),l.length=65→(∀x∈ws,41≤x.pos∧x.pos<65)→(∀j,entAt (setsL l ws) j=entAt l j)∧(∀j,inoAt (setsL l ws) j=inoAt l j)
 | [],l,_,_=>⟨fun _=>rfl,fun _=>rfl⟩
 | x::r,l,hl,h=>by
  obtain⟨h0,h1⟩:=h x (List.mem_cons_self ..)
  have e:l.set x.pos.toNat x.s=setB l (x.pos.toNat-40) x.s:=by rw[setB,show 40+(x.pos.toNat-40)=x.pos.toNat by omega]
  obtain⟨g1,g2⟩:=b2c r (l.set x.pos.toNat x.s) (by rw[List.length_set];exact hl) fun y hy=>h y (List.mem_cons_of_mem _ hy)
  refine⟨fun j=>(g1 j).trans ?_,fun j=>(g2 j).trans ?_⟩
  ·rw[e];exact d4c hl (by omega) _ j
  ·rw[e];exact d2w hl (by omega) _ j
theorem d3z(l:List (List Int))(a b:List Wr):setsL l (a++b)=setsL (setsL l a) b:=by simp[setsL,List.foldl_append]
def wrImg(L:List (List Int))(n off:Nat)(b:List Int)(y:Ino):List (List Int):=setsL L (blksW L (n:Int) y (hadG L n) off b 4++if y=inoAt L (n:Int) then [] else [wIno (n:Int) y])
section
variable {L:List (List Int)} {n off:Nat} {b:List Int} {f:List Nat}
theorem Grow.img(G:Grow L n off b f):(wrImg L n off b (gI L n off b f)).length=65∧Secs (wrImg L n off b (gI L n off b f))∧(∀j,entAt (wrImg L n off b (gI L n off b f)) j=entAt L j)∧(∀m,inoAt (wrImg L n off b (gI L n off b f)) m=if m=(n:Int) then gI L n off b f else inoAt L m) ∧
  (∀c:Nat,1≤c→(wrImg L n off b (gI L n off b f)).getD (40+c) zero32=(blkImg L n off b (gI L n off b f)).getD (40+c) zero32):=by
 obtain⟨g1,g2⟩:=b2c _ L G.len (fun x hx=>G.inB hx)
 have hl:(blkImg L n off b (gI L n off b f)).length=65:=by rw[blkImg,c1t];exact G.len
 have hs:=G.secsB
 unfold wrImg
 by_cases e:gI L n off b f=inoAt L (n:Int)
 ·rw[if_pos e,List.append_nil]
  refine⟨hl,hs,g1,fun m => ?_,fun c _=>rfl⟩
  rw[g2]
  split
  ·rename_i h;rw[h,e]
  ·rfl
 ·rw[if_neg e,d3z]
  have e2:setsL (setsL L (blksW L (n:Int) (gI L n off b f) (hadG L n) off b 4)) [wIno (n:Int) (gI L n off b f)]=setI (blkImg L n off b (gI L n off b f)) n (gI L n off b f):=by
   show (blkImg L n off b (gI L n off b f)).set (wIno (n:Int) _).pos.toNat _=_
   rw[b9z];rfl
  rw[e2]
  refine⟨by rw[a6s];exact hl,a2m hs (a2k G.bl) _,fun j=>by rw[b6f hl G.n16];exact g1 j,fun m => ?_,fun c hc => ?_⟩
  ·rw[b5z hl G.n16 G.bl G.right]
   split
   ·rfl
   ·exact g2 m
  ·unfold setI
   have h3:1+n≠40+c:=by have:=G.n16;omega
   rw[setD_ne h3]
end
theorem c0g{ss:List (List Int)}{k:Nat}(hk:k<24)(hu:(entAt ss (k:Int)).used=true):takenB ss (entAt ss (k:Int)).target=true:=by
 rw[takenB,Bool.or_eq_true,namedIn,List.any_eq_true]
 exact Or.inl ⟨k,List.mem_range.2 hk,by rw[hu,decide_eq_true rfl];rfl⟩
end fs
namespace fs
set_option maxRecDepth 100000
open Go.ChangeShapes Go.WideShapes Go.ChangeAt Go.RowKit
open rows
open sec
open ly
open pa
open lk
theorem d5c{t:List Nd}{i:Nat}(h:i<t.length){a:Nd}(ha:t.getD i nd0=a):t.set i a=t:=by rw[← ha,b5a h]
end fs
namespace fs
set_option maxRecDepth 100000
open Go.ChangeShapes Go.WideShapes Go.ChangeAt Go.RowKit
open rows
open sec
open ly
open pa
open lk
structure FAct where
 kind:Int
 p:ByteArray
 q:ByteArray
 n:Int
 b:List Int
 bad:List Int
def fDo(st:dsk.St)(a:FAct):Int×dsk.St :=
 if a.kind=0 then makeV st a.p 1 else if a.kind=1 then makeV st a.p 2
 else if a.kind=2 then writeFV st a.p a.n a.b else if a.kind=3 then appendV st a.p a.b
 else if a.kind=4 then truncV st a.p a.n else if a.kind=5 then renameV st a.p a.q else if a.kind=6 then unlinkV st a.p else (0,st)
end fs
namespace fs
set_option maxRecDepth 100000
open Go.ChangeShapes Go.WideShapes Go.ChangeAt Go.RowKit
open rows
open sec
open dsk (wf64)
open ly
open pa
open lk
structure ActIn (w:World) (a:FAct) (vb vf:Value):Prop where
 kind:wf64 a.kind
 n:wf64 a.n
 p:a.p.size≤100
 q:a.q.size≤100
 bl:a.b.length≤300
 bb:∀z∈a.b,0≤z∧z<256
 rd:Rd w 1 vb a.b.length (a.b.map (Value.int .u8))
theorem ActIn.later{w w':World}{a:FAct}{vb vf:Value}(h:ActIn w a vb vf)(k:Below w.heap.size w w'):ActIn w' a vb vf:=⟨h.kind,h.n,h.p,h.q,h.bl,h.bb,h.rd.later k⟩
abbrev actC(a:FAct)(vb vf:Value):Array Value := #[.int .i64 a.kind,.string a.p,.string a.q,.int .i64 a.n,vb,vf]
end fs
end Go.Proofs.YtpnahagiojelbaaGreatDoor
