/- What ViewBack wants, part 22. -/
import Derived.Test.YtjedjkjhodgidaaGreatDoorViewBackB
import Derived.Test.YtjedjkjhodgidaaGreatDoorViewBackD
import Derived.Test.YtjedjkjhodgidaaGreatDoorViewBackF
import Derived.Test.YtjedjkjhodgidaaGreatDoorViewBackJ
import Derived.Test.YtjedjkjhodgidaaGreatDoorViewBackL
import Derived.Test.YtjedjkjhodgidaaGreatDoorViewBackQ
import Derived.Test.YtjedjkjhodgidaaGreatDoorViewBackT
import Derived.Test.YtjedjkjhodgidaaGreatDoorViewBackU
import Derived.Laws.Cover1
import Derived.BigQuiet
set_option linter.unusedVariables false
set_option linter.unusedSimpArgs false
namespace Go.Proofs.YtjedjkjhodgidaaGreatDoor
namespace lk
set_option maxRecDepth 100000
open Go.ChangeShapes Go.WideShapes Go.ChangeAt Go.RowKit
open rows
open sec
open ly
open pa
def ltS(a b:ByteArray):Bool:=Op.bytesLess a.toList b.toList
theorem b9y(x:List UInt8):∀(y:List UInt8),Op.bytesLess x y=decide (x<y):=by
 induction x with
 | nil=>intro y;cases y<;>simp[Op.bytesLess]
 | cons a x ih =>
  intro y
  cases y with
  | nil=>simp[Op.bytesLess]
  | cons b y =>
   simp only[Op.bytesLess,ih y,List.cons_lt_cons_iff,Bool.decide_or,Bool.decide_and]
   rcases Decidable.em (a<b) with h1|h1<;>rcases Decidable.em (a=b) with h2|h2<;>simp[h1,h2]
theorem b2r(a b:ByteArray):ltS a b=decide (a.toList<b.toList):=b9y _ _
theorem a4q(a:ByteArray):ltS a a=false:=by
 rw[b2r,decide_eq_false_iff_not]
 exact List.lt_irrefl _
theorem a9g{a b c:ByteArray}(h:ltS a b=true)(k:ltS b c=true):ltS a c=true:=by
 rw[b2r,decide_eq_true_eq] at *
 exact List.lt_trans h k
theorem a8p{a b:ByteArray}(h:a.toList=b.toList):a=b:=by
 have h2:a.data.toList=b.data.toList:=by rw[← ByteArray.toList_eq,← ByteArray.toList_eq];exact h
 cases a;cases b
 simpa using h2
theorem b6c{a b:ByteArray}(h:ltS a b=false)(k:ltS b a=false):a=b:=by
 rw[b2r,decide_eq_false_iff_not] at *
 exact a8p (List.le_antisymm (List.not_lt.1 k) (List.not_lt.1 h))
def nmIn(ss:List (List Int))(d:Int)(k:Nat)(x:ByteArray):Prop:=∃j,j<k∧standB ss j=true∧(entAt ss (j:Int)).parent=d∧(entAt ss (j:Int)).name=x
def atB(ss:List (List Int))(d:Int)(j:Nat):Bool:=standB ss j && decide ((entAt ss (j:Int)).parent=d)
theorem a8v{ss:List (List Int)}{d:Int}{k:Nat}{x:ByteArray}:nmIn ss d (k+1) x↔nmIn ss d k x∨(atB ss d k=true∧(entAt ss (k:Int)).name=x):=by
 constructor
 ·rintro⟨j,hj,h1,h2,h3⟩
  by_cases e:j=k
  ·subst e
   exact Or.inr ⟨by rw[atB,h1,h2];simp,h3⟩
  ·exact Or.inl ⟨j,by omega,h1,h2,h3⟩
 ·rintro(⟨j,hj,h⟩|⟨h1,h2⟩)
  ·exact⟨j,by omega,h⟩
  ·rw[atB,Bool.and_eq_true,decide_eq_true_eq] at h1
   exact⟨k,by omega,h1.1,h1.2,h2⟩
def IsList(ss:List (List Int))(d:Int)(L:List ByteArray):Prop:=L.Pairwise (fun a b=>ltS a b=true)∧∀x,x∈L↔nmIn ss d 24 x
theorem a4i:∀{a b:List ByteArray},a.Pairwise (fun x y=>ltS x y=true)→b.Pairwise (fun x y=>ltS x y=true)→(∀x,x∈a↔x∈b)→a=b
 | [],[],_,_,_=>rfl
 | [],y::b,_,_,h=>by have:=(h y).2 (List.mem_cons_self ..);cases this
 | x::a,[],_,_,h=>by have:=(h x).1 (List.mem_cons_self ..);cases this
 | x::a,y::b,ha,hb,h=>by
  rw[List.pairwise_cons] at ha hb
  have hxy:x=y:=by
   rcases List.mem_cons.1 ((h x).1 (List.mem_cons_self ..)) with e|hx
   ·exact e
   ·rcases List.mem_cons.1 ((h y).2 (List.mem_cons_self ..)) with e|hy
    ·exact e.symm
    ·have h1:=hb.1 x hx
     have h2:=ha.1 y hy
     have:=a9g h1 h2
     rw[a4q] at this
     cases this
  subst hxy
  have ih:=a4i ha.2 hb.2 fun z=>by
   constructor
   ·intro hz
    rcases List.mem_cons.1 ((h z).1 (List.mem_cons_of_mem _ hz)) with e|hz2
    ·subst e
     have:=ha.1 z hz
     rw[a4q] at this
     cases this
    ·exact hz2
   ·intro hz
    rcases List.mem_cons.1 ((h z).2 (List.mem_cons_of_mem _ hz)) with e|hz2
    ·subst e
     have:=hb.1 z hz
     rw[a4q] at this
     cases this
    ·exact hz2
  rw[ih]
theorem a8o{ss:List (List Int)}{d:Int}{a b:List ByteArray}(ha:IsList ss d a)(hb:IsList ss d b):a=b:=a4i ha.1 hb.1 fun x=>(ha.2 x).trans (hb.2 x).symm
theorem a7n:Elem 113 9 1 16 (.string ByteArray.empty):=⟨Tryz.underlying113,by kernel_rfl,by decide,by decide,by decide⟩
def strV(L:List ByteArray):List Value:=L.map .string
end lk
namespace fs
set_option maxRecDepth 100000
open sec
open ly
open lk
open pa
theorem b5k(ss:List (List Int))(k:Int):rightE (entAt ss k)=true:=by
 unfold entAt
 split
 ·unfold entOfV
  split
  ·rename_i h
   rw[entOfB,Bool.and_eq_true] at h
   exact h.1
  ·exact a7r
 ·exact a7r
theorem b3f{ss:List (List Int)}{k:Int}(h:(entAt ss k).used=true):0≤(entAt ss k).parent∧(entAt ss k).parent<16∧1≤(entAt ss k).target∧(entAt ss k).target<16∧nameB (entAt ss k).name=true:=by
 have hr:=b5k ss k
 rw[a2l h] at hr
 simp only[Bool.and_eq_true,decide_eq_true_eq] at hr
 exact⟨hr.1.1.1.1,hr.1.1.1.2,hr.1.1.2,hr.1.2,hr.2⟩
end fs
namespace fs
set_option maxRecDepth 100000
open Go.ChangeShapes Go.WideShapes Go.ChangeAt Go.RowKit
open rows
open sec
open ly
open pa
open lk
def byteAt(ss:List (List Int))(x:Ino)(i:Nat):Int:=(ss.getD (40+(x.b.getD (i / 32) 0).toNat) zero32).getD (i % 32) 0
def readL(ss:List (List Int))(x:Ino):List Int:=(List.range x.size.toNat).map (byteAt ss x)
theorem b2v{ss:List (List Int)}(hs:Secs ss)(z:Int)(h:(inoAt ss z).kind=1):0≤(inoAt ss z).size∧(inoAt ss z).size≤128∧∀i:Nat,(i:Int)<(inoAt ss z).size→1≤(inoAt ss z).b.getD (i / 32) 0∧(inoAt ss z).b.getD (i / 32) 0≤24:=by
 have hk0:ino0.kind≠1:=by decide
 unfold inoAt at h ⊢
 split
 ·rename_i hin
  rw[if_pos hin] at h
  rw[inoOfV] at h ⊢
  split
  ·rename_i hb
   rw[if_pos hb] at h
   rw[inoOfB,Bool.and_eq_true] at hb
   have hr:=hb.1
   rw[a2u h,Bool.and_eq_true,Bool.and_eq_true,decide_eq_true_eq,decide_eq_true_eq] at hr
   refine⟨hr.1.1,hr.1.2,fun i hi => ?_⟩
   have hn:i / 32<need (inoOf (secAt ss (1+z))).size.toNat:=by unfold need;omega
   have h4:=b1e (z:=(inoOf (secAt ss (1+z))).size.toNat) (by omega)
   have hbk:=b0w hr.2 (i / 32) (by omega)
   rw[a4l hn,Bool.and_eq_true,Bool.and_eq_true,decide_eq_true_eq,decide_eq_true_eq] at hbk
   exact hbk.1
  ·rename_i hb
   rw[if_neg hb] at h
   exact absurd h hk0
 ·rename_i hin
  rw[if_neg hin] at h
  exact absurd h hk0
theorem a1x:Elem 54 5 1 1 (.int .u8 0):=⟨Tryz.underlying54,by kernel_rfl,by decide,by decide,by decide⟩
end fs
namespace fs
set_option maxRecDepth 100000
open sec
open ly
open lk
open pa
structure Nd where
 path:ByteArray
 dir:Bool
 data:ByteArray
def nd0:Nd:=⟨ByteArray.empty,false,ByteArray.empty⟩
end fs
namespace vw
set_option maxRecDepth 100000
open ly
open pa
open fs (Nd)
def okN(x:Nd):Bool:=errP (bys x.path) == 0 && decide (x.data.size≤128) && (!x.dir || decide (x.data.size=0))
def bodyL(x:Nd):List Int:=bys x.path++(if x.dir then [47] else 32::quoteL (bys x.data))
def lineL(x:Nd):List Int:=bodyL x++[10]
def textL(l:List Nd):List Int:=(l.map lineL).flatten
theorem a6s{l:List Int}(h:errP l=0):∃ns,ns≠[]∧l=joinL ns∧(∀n∈ns,isNm n=true)∧ns.length≤4:=by
 unfold errP at h
 split at h
 ·rename_i n ns he
  obtain⟨e,hn,hl,_⟩:=a4s he
  refine⟨n::ns,by simp,?_,hn,hl⟩
  rw[← e,joinP,if_neg (by simp)]
 ·cases h
 ·cases h
theorem c0m{n:List Int}(h:isNm n=true):∀x∈n,46≤x∧x≠47∧x≤122:=by
 intro x hx
 rw[isNm,Bool.and_eq_true] at h
 have:=(List.all_eq_true.1 h.2) x hx
 simp only[inNm,Bool.or_eq_true,Bool.and_eq_true,decide_eq_true_eq,beq_iff_eq] at this
 omega
theorem b4e{ns:List (List Int)}(h:∀n∈ns,isNm n=true):∀x∈joinL ns,46≤x∧x≤122:=by
 intro x hx
 obtain⟨l,hl,hxl⟩:=List.mem_flatten.1 hx
 obtain⟨n,hn,rfl⟩:=List.mem_map.1 hl
 rcases List.mem_cons.1 hxl with rfl|hxl
 ·omega
 ·have:=c0m (h n hn) x hxl;omega
theorem a7j{l:List Int}(h:errP l=0):∀x∈l,46≤x∧x≤122:=by
 obtain⟨ns,_,rfl,hn,_⟩:=a6s h
 exact b4e hn
theorem b3j{l:List Int}(h:errP l=0):1≤l.length∧l.length≤36:=by
 obtain⟨ns,h0,rfl,hn,h4⟩:=a6s h
 have:∀(ns:List (List Int)),(∀n∈ns,isNm n=true)→(joinL ns).length≤9 * ns.length:=by
  intro ns
  induction ns with
  | nil=>intro _;simp[joinL]
  | cons n t ih =>
   intro hh
   have:=ih fun x hx=>hh x (List.mem_cons_of_mem _ hx)
   have:=a8e (hh n List.mem_cons_self)
   rw[a3d,List.length_cons,List.length_append,List.length_cons];omega
 have hl:=this ns hn
 refine⟨?_,by omega⟩
 match ns,h0 with
 | n::t,_=>rw[a3d];simp
theorem a6j(x:Nd):okN x=true↔errP (bys x.path)=0∧x.data.size≤128∧(x.dir=true→x.data.size=0):=by
 rw[okN,Bool.and_eq_true,Bool.and_eq_true,beq_iff_eq,decide_eq_true_eq,and_assoc]
 cases x.dir<;>simp
theorem quote_bytes{l:List Int}(hb:∀x∈l,0≤x∧x<256):∀x∈quoteL l,32≤x∧x≤126:=by
 intro x hx
 rw[quoteL] at hx
 rcases List.mem_cons.1 hx with rfl|hx
 ·omega
 rcases List.mem_append.1 hx with hx|hx
 ·obtain⟨m,hm,hxm⟩:=List.mem_flatten.1 hx
  obtain⟨c,hc,rfl⟩:=List.mem_map.1 hm
  have:=b3y (hb c hc) x hxm;omega
 ·rw[List.mem_singleton.1 hx];omega
theorem a7t{x:Nd}(h:okN x=true):∀c∈bodyL x,32≤c∧c≤126:=by
 intro c hc
 have hp:=a7j ((a6j x).1 h).1
 rcases List.mem_append.1 hc with hc|hc
 ·have:=hp c hc;omega
 ·split at hc
  ·rw[List.mem_singleton.1 hc];omega
  ·rcases List.mem_cons.1 hc with rfl|hc
   ·omega
   ·exact quote_bytes (a0n _) c hc
def cutAt(c:Int)(l:List Int):List Int:=l.takeWhile fun x=>x != c
theorem b0i{c:Int}{a:List Int}(h:∀x∈a,x≠c)(b:List Int):cutAt c (a++c::b)=a:=by
 unfold cutAt
 rw[List.takeWhile_append_of_pos (by simpa using h),List.takeWhile_cons,if_neg (by simp),List.append_nil]
theorem a5y{c:Int}:∀{l:List Int},(cutAt c l).length<l.length→l=cutAt c l++c::l.drop ((cutAt c l).length+1)
 | [],h=>by simp at h
 | a::t,h=>by
  by_cases ha:a=c
  ·subst ha
   have:cutAt a (a::t)=[]:=by simp[cutAt]
   rw[this];rfl
  ·have e:cutAt c (a::t)=a::cutAt c t:=by simp[cutAt,ha]
   rw[e] at h ⊢
   have:=a5y (c:=c) (l:=t) (by simpa using h)
   rw[List.length_cons,List.drop_succ_cons,List.cons_append,← this]
def lineV(ln:List Int):Option Nd :=
 if ln≠[]∧ln.getD (ln.length-1) 0=47 then
  (if okN ⟨strOfNums (ln.take (ln.length-1)),true,ByteArray.empty⟩ then some ⟨strOfNums (ln.take (ln.length-1)),true,ByteArray.empty⟩ else none)
 else if (cutAt 32 ln).length<ln.length then
  match unquoteL (ln.drop ((cutAt 32 ln).length+1)) with
  | some m=>if okN ⟨strOfNums (cutAt 32 ln),false,strOfNums m⟩ then some ⟨strOfNums (cutAt 32 ln),false,strOfNums m⟩ else none
  | none=>none
 else none
theorem b6a{ln:List Int}(hb:∀x∈ln,0≤x∧x<256){x:Nd}(h:lineV ln=some x):okN x=true∧bodyL x=ln:=by
 unfold lineV at h
 split at h
 ·rename_i hl
  split at h
  ·rename_i hk
   cases h
   refine⟨hk,?_⟩
   rw[bodyL,if_pos rfl]
   have hp:=List.length_pos_iff.2 hl.1
   have hlt:ln.length-1<ln.length:=by omega
   have e:=hl.2
   rw[List.getD,List.getElem?_eq_getElem hlt] at e
   rw[a0w fun y hy=>hb y (List.mem_of_mem_take hy)]
   conv=>rhs;rw[← List.take_append_drop (ln.length-1) ln,List.drop_eq_getElem_cons hlt,List.drop_eq_nil_of_le (by omega)]
   rw[show ln[ln.length-1]=47 from e]
  ·cases h
 ·split at h
  ·rename_i hu
   split at h
   ·rename_i m hm
    split at h
    ·rename_i hk
     cases h
     refine⟨hk,?_⟩
     obtain⟨eq,hmb⟩:=a2q (fun y hy=>hb y (List.mem_of_mem_drop hy)) hm
     rw[bodyL,if_neg (by simp),a0w hmb,eq,a0w (xs:=cutAt 32 ln) fun y hy=>hb y ((List.takeWhile_prefix _).subset hy)]
     exact(a5y hu).symm
    ·cases h
   ·cases h
  ·cases h
theorem b9k{b:ByteArray}(h:b.size=0):b=ByteArray.empty:=by
 apply a1p
 have:=a0d b
 rw[h] at this
 rw[List.eq_nil_of_length_eq_zero this]
 rfl
theorem b7a{x:Nd}(h:okN x=true):lineV (bodyL x)=some x:=by
 obtain⟨hp,hs,hd⟩:=(a6j x).1 h
 obtain⟨p,d,b⟩:=x
 cases d with
 | true =>
  have hb:b=ByteArray.empty:=b9k (hd rfl)
  subst hb
  rw[lineV,bodyL,if_pos rfl,if_pos]
  ·simp only[List.length_append,List.length_singleton,Nat.add_sub_cancel,List.take_left',a1h]
   rw[if_pos h]
  ·refine⟨by simp,?_⟩
   rw[List.length_append,List.length_singleton,Nat.add_sub_cancel,List.getD,List.getElem?_append_right (Nat.le_refl _),Nat.sub_self]
   rfl
 | false =>
  have hc:=a7j hp
  have e:bodyL ⟨p,false,b⟩=bys p++32::quoteL (bys b):=by rw[bodyL,if_neg (by simp)]
  have hu:cutAt 32 (bys p++32::quoteL (bys b))=bys p:=b0i (fun x hx=>by have:=hc x hx;omega) _
  rw[e,lineV,if_neg,if_pos,hu]
  ·rw[show (bys p++32::quoteL (bys b)).drop ((bys p).length+1)=quoteL (bys b) by rw[← List.drop_drop,List.drop_left];rfl,a3u _ (a0n b)]
   simp only[a1h]
   rw[if_pos h]
  ·rw[hu];simp
  ·rintro⟨_,h2⟩
   have hq:bys p++32::quoteL (bys b)=(bys p++32::34::((bys b).map signL).flatten)++[34]:=by simp[quoteL]
   rw[hq,List.length_append,List.length_singleton,Nat.add_sub_cancel,List.getD,List.getElem?_append_right (Nat.le_refl _),Nat.sub_self] at h2
   simp at h2
def rdF:Nat→List Int→Option (List Nd)
 | 0,s=>if s=[] then some [] else none
 | f+1,s=>if s=[] then some [] else
  if (cutAt 10 s).length<s.length then
   match lineV (cutAt 10 s) with
   | none=>none
   | some x=>(rdF f (s.drop ((cutAt 10 s).length+1))).map (x :: ·)
  else none
def rdNodes(s:List Int):Option (List Nd):=rdF s.length s
theorem b2l:∀(f:Nat) (s:List Int),s.length≤f→∀g,rdF (f+g) s=rdF f s
 | 0,s,hs,g=>by
  obtain rfl:s=[]:=List.eq_nil_of_length_eq_zero (by omega)
  cases g<;>rfl
 | f+1,s,hs,g=>by
  rw[show f+1+g=(f+g)+1 by omega,rdF,rdF,b2l f (s.drop ((cutAt 10 s).length+1)) (by rw[List.length_drop];omega) g]
theorem b9h:rdNodes []=some []:=rfl
theorem a9y{s:List Int}(h:(cutAt 10 s).length<s.length){x:Nd}(hx:lineV (cutAt 10 s)=some x):rdNodes s=(rdNodes (s.drop ((cutAt 10 s).length+1))).map (x :: ·):=by
 obtain⟨k,hk⟩:∃k,s.length=k+1:=⟨s.length-1,by omega⟩
 have hs:s≠[]:=by intro e;rw[e] at hk;simp at hk
 have hd:(s.drop ((cutAt 10 s).length+1)).length=s.length-((cutAt 10 s).length+1):=List.length_drop
 rw[rdNodes,hk,rdF,if_neg hs,if_pos (by omega),hx]
 simp only
 rw[rdNodes,show k=(s.drop ((cutAt 10 s).length+1)).length+(cutAt 10 s).length by omega,b2l _ _ (Nat.le_refl _)]
theorem b3c{s:List Int}(hs:s≠[])(h:(cutAt 10 s).length<s.length→lineV (cutAt 10 s)=none):rdNodes s=none:=by
 obtain⟨k,hk⟩:∃k,s.length=k+1:=⟨s.length-1,by have:=List.length_pos_iff.2 hs;omega⟩
 rw[rdNodes,hk,rdF,if_neg hs]
 split
 ·rw[h (by omega)]
 ·rfl
theorem a2c(x:Nd)(l:List Nd):textL (x::l)=bodyL x++10::textL l:=by
 rw[textL,List.map_cons,List.flatten_cons,lineL,List.append_assoc];rfl
theorem b4h(l:List Nd)(x:Nd):textL (l++[x])=textL l++lineL x:=by simp[textL]
theorem a9a:∀(l:List Nd),(∀x∈l,okN x=true)→rdNodes (textL l)=some l
 | [],_=>rfl
 | x::l,h=>by
  have hx:=h x List.mem_cons_self
  have hc:=a7t hx
  have hu:cutAt 10 (textL (x::l))=bodyL x:=by rw[a2c];exact b0i (fun c hc'=>by have:=hc c hc';omega) _
  have hl:(textL (x::l)).length=(bodyL x).length+1+(textL l).length:=by rw[a2c,List.length_append,List.length_cons];omega
  rw[a9y (x:=x) (by rw[hu];omega) (by rw[hu];exact b7a hx),hu,a2c,← List.drop_drop,List.drop_left,List.drop_one,List.tail_cons,a9a l fun y hy=>h y (List.mem_cons_of_mem _ hy)]
  rfl
theorem b2a:∀(f:Nat) (s:List Int) (l:List Nd),(∀x∈s,0≤x∧x<256)→rdF f s=some l→textL l=s∧∀x∈l,okN x=true
 | 0,s,l,_,h=>by
  rw[rdF] at h
  split at h
  ·rename_i hs;cases h;exact⟨hs.symm,fun x hx=>nomatch hx⟩
  ·cases h
 | f+1,s,l,hb,h=>by
  rw[rdF] at h
  split at h
  ·rename_i hs;cases h;exact⟨hs.symm,fun x hx=>nomatch hx⟩
  split at h
  ·rename_i hu
   cases hv:lineV (cutAt 10 s) with
   | none=>rw[hv] at h;cases h
   | some x =>
    rw[hv] at h
    simp only at h
    cases hr:rdF f (s.drop ((cutAt 10 s).length+1)) with
    | none=>rw[hr] at h;cases h
    | some m =>
     rw[hr] at h
     cases h
     obtain⟨e,hm⟩:=b2a f _ m (fun y hy=>hb y (List.mem_of_mem_drop hy)) hr
     obtain⟨hx,he⟩:=b6a (fun y hy=>hb y ((List.takeWhile_prefix _).subset hy)) hv
     refine⟨?_,fun y hy => ?_⟩
     ·rw[a2c,e,he];exact(a5y hu).symm
     ·rcases List.mem_cons.1 hy with rfl|hy
      ·exact hx
      ·exact hm y hy
  ·cases h
theorem b6i{s:List Int}{l:List Nd}(hb:∀x∈s,0≤x∧x<256)(h:rdNodes s=some l):textL l=s∧∀x∈l,okN x=true:=b2a _ _ _ hb h
end vw
namespace vw
set_option maxRecDepth 100000
open rows
open sec
open ly
open pa
open lk
open fs (Nd readL)
def insS(x:ByteArray):List ByteArray→List ByteArray
 | []=>[x]
 | y::t=>if ltS x y=true then x::y::t else if ltS y x=true then y::insS x t else y::t
theorem a8t(x z:ByteArray):∀L:List ByteArray,z∈insS x L↔z=x∨z∈L
 | []=>by simp[insS]
 | y::t=>by
  rw[insS]
  split
  ·simp
  ·split
   ·rw[List.mem_cons,a8t x z t,List.mem_cons]
    constructor
    ·rintro(h|h|h)<;>simp[h]
    ·rintro(h|h|h)<;>simp[h]
   ·rename_i h1 h2
    have:x=y:=b6c (by simpa using h1) (by simpa using h2)
    subst this
    simp
theorem a5w(x:ByteArray):∀L:List ByteArray,L.Pairwise (fun a b=>ltS a b=true)→(insS x L).Pairwise (fun a b=>ltS a b=true)
 | [],_=>List.pairwise_singleton _ _
 | y::t,h=>by
  rw[insS]
  split
  ·rename_i hxy
   exact List.pairwise_cons.2 ⟨fun z hz=>by
    rcases List.mem_cons.1 hz with rfl|hz
    ·exact hxy
    ·exact a9g hxy ((List.pairwise_cons.1 h).1 z hz),h⟩
  ·split
   ·rename_i hyx
    refine List.pairwise_cons.2 ⟨fun z hz => ?_,a5w x t (List.pairwise_cons.1 h).2⟩
    rcases(a8t x z t).1 hz with rfl|hz
    ·exact hyx
    ·exact(List.pairwise_cons.1 h).1 z hz
   ·exact h
def listU(ss:List (List Int))(d:Int):Nat→List ByteArray
 | 0=>[]
 | k+1=>if atB ss d k then insS (entAt ss (k:Int)).name (listU ss d k) else listU ss d k
def listV(ss:List (List Int))(d:Int):List ByteArray:=listU ss d 24
theorem a7a(ss:List (List Int))(d:Int):∀k,(listU ss d k).Pairwise (fun a b=>ltS a b=true)∧∀x,x∈listU ss d k↔nmIn ss d k x
 | 0=>⟨List.Pairwise.nil,fun x=>⟨fun h=>(nomatch h),fun⟨j,hj,_⟩=>by omega⟩⟩
 | k+1=>by
  obtain⟨h1,h2⟩:=a7a ss d k
  rw[listU]
  split
  ·rename_i hb
   exact⟨a5w _ _ h1,fun x=>by
    rw[a8t,a8v,h2 x]
    constructor
    ·rintro(h|h)
     ·exact Or.inr ⟨hb,h.symm⟩
     ·exact Or.inl h
    ·rintro(h|h)
     ·exact Or.inr h
     ·exact Or.inl h.2.symm⟩
  ·rename_i hb
   exact⟨h1,fun x=>by
    rw[a8v,h2 x]
    exact⟨Or.inl,fun h=>h.elim id fun h=>absurd h.1 hb⟩⟩
theorem b7b(ss:List (List Int))(d:Int):IsList ss d (listV ss d):=a7a ss d 24
theorem list_eq{ss:List (List Int)}{d:Int}{L:List ByteArray}(h:IsList ss d L):L=listV ss d:=a8o h (b7b ss d)
theorem b0o(ss:List (List Int))(d:Int):∀k,(listU ss d k).length≤k
 | 0=>Nat.le_refl _
 | k+1=>by
  have:=b0o ss d k
  have hi:∀(x:ByteArray) (L:List ByteArray),(insS x L).length≤L.length+1:=by
   intro x L
   induction L with
   | nil=>simp[insS]
   | cons y t ih =>
    rw[insS]
    split
    ·simp
    ·split<;>simp<;>omega
  rw[listU];split
  ·have:=hi (entAt ss (k:Int)).name (listU ss d k);omega
  ·omega
theorem b8k{ss:List (List Int)}{d:Int}{x:ByteArray}(h:x∈listV ss d):∃k,findO ss d x=some k∧k<24∧inB ss d x k=true:=by
 obtain⟨j,hj,h1,h2,h3⟩:=((b7b ss d).2 x).1 h
 cases hf:findO ss d x with
 | none =>
  have:=upto_none.1 hf j hj
  rw[inB,h1,decide_eq_true h2,decide_eq_true h3] at this
  cases this
 | some k=>exact⟨k,rfl,(a5o hf).1,(a5o hf).2.1⟩
def tgt(ss:List (List Int))(d:Int)(x:ByteArray):Int:=(entAt ss (((findO ss d x).getD 0:Nat):Int)).target
def nodeV(ss:List (List Int))(m:Int)(way:List (List Int)):Nd:=⟨strOfNums (joinP way),decide ((inoAt ss m).kind=2),strOfNums (readL ss (inoAt ss m))⟩
def nodesF(ss:List (List Int)):Nat→Int→List (List Int)→List Nd
 | 0,_,_=>[]
 | f+1,n,way=>if (inoAt ss n).kind=2 then
   ((listV ss n).map fun x=>nodeV ss (tgt ss n x) (way++[bys x])::nodesF ss f (tgt ss n x) (way++[bys x])).flatten
  else []
def nodesV(ss:List (List Int)):List Nd:=nodesF ss 4 0 []
def treeV(ss:List (List Int)):List Nd:=(nodesV ss).take 64
def wholeB(ss:List (List Int)):Bool:=decide ((nodesV ss).length≤64)
theorem b6g{ss:List (List Int)}{f:Nat}{n:Int}{way:List (List Int)}(h:(inoAt ss n).kind≠2):nodesF ss f n way=[]:=by
 cases f with
 | zero=>rfl
 | succ f=>rw[nodesF,if_neg h]
end vw
namespace fs
set_option maxRecDepth 100000
open sec
open ly
open lk
open pa
open al
theorem getD_set_ne{t:List Nd}{i j:Nat}(h:j≠i)(a:Nd):(t.set i a).getD j nd0=t.getD j nd0:=by
 have h2:¬i=j:=fun e=>h e.symm
 simp[List.getD,List.getElem?_set,h2]
theorem a7f{ss:List (List Int)}(m:Int):rightI (inoAt ss m)=true:=by
 unfold inoAt
 split
 ·rw[inoOfV]
  split
  ·rename_i h
   rw[inoOfB,Bool.and_eq_true] at h
   exact h.1
  ·decide
 ·decide
end fs
namespace fs
set_option maxRecDepth 100000
open Go.ChangeShapes Go.WideShapes Go.ChangeAt Go.RowKit
open rows
open sec
open ly
open lk
theorem a7y:(Tryz.prog.info? 76).map (·.size)=some 2:=by kernel_rfl
theorem b2z{ops:Array Oper}{S:World→Prop}{op:Oper}{a:Act}(hw:Region.wanted op (yielded ops a.tmps)=true)(x:Operand)(ho:op.op = .load 76 x)
  (b o:Nat) (hx:a.eval x = .pointer (some ⟨b,o,none⟩)) (k id:Int) (hS:∀w,S w→w.cell? ⟨b,o,none⟩=some (.int .i64 k)∧w.cell? ⟨b,o+1,none⟩=some (.int .i64 id)):YieldsIf Tryz.prog ops S op (.agg #[.int .i64 k,.int .i64 id]) a :=
 yieldsIf_load_mid hw _ x ho b o hx [.int .i64 k,.int .i64 id] _ (fun w h j u hj=>by
  obtain⟨h1,h2⟩:=hS w h
  match j,hj with
  | 0,hj=>cases hj;exact h1
  | 1,hj=>cases hj;exact h2
  | j+2,hj=>simp at hj) Tryz.underlying76 rfl (by rw[a7y];rfl)
end fs
namespace vw
set_option maxRecDepth 100000
open Go.ChangeShapes Go.WideShapes Go.ChangeAt Go.RowKit
open rows
open sec
open ly
open pa
theorem b7v(a b:List Int):strOfNums a++strOfNums b=strOfNums (a++b):=by
 apply a1p
 unfold bys
 rw[ByteArray.data_append,Array.toList_append,strOfNums_data,strOfNums_data,strOfNums_data,List.map_append (l₁:=a),List.map_append]
theorem a0x{w w':World}{B:Nat}{e:TypeId}{sz n:Nat}{v:Value}{cs:List Value}(h:Own w B e sz v n cs)(hb:Below w.heap.size w w'):Own w' B e sz v n cs :=
 ⟨h.1,h.2.elim Or.inl fun⟨g,cap,cur,h1,h2,h3,r⟩=>Or.inr ⟨g,cap,cur,h1,h2,(hb.block g (Array.getElem?_eq_some_iff.1 h3).1).trans h3,r⟩⟩
theorem a9m:∀k:Nat,(h:k<16)→((({ data := #[48,49,50,51,52,53,54,55,56,57,97,98,99,100,101,102] }:ByteArray)[k]'h).toNat:Int)=hexC (k:Int):=by decide
end vw
namespace fs
set_option maxRecDepth 100000
open Go.ChangeShapes Go.WideShapes Go.ChangeAt Go.RowKit
open rows
open sec
open ly
open pa
open lk
abbrev Nd.c(a:Nd):List Value:=[.string a.path,.bool a.dir,.string a.data]
abbrev aggN(a:Nd):Value := .agg #[.string a.path,.bool a.dir,.string a.data]
def nodesC(t:List Nd):List Value:=(t.map Nd.c).flatten
theorem a6q(t u:List Nd):nodesC (t++u)=nodesC t++nodesC u:=by simp[nodesC]
theorem a0z:Elem 25 35 3 40 (.agg #[.string ByteArray.empty,.bool false,.string ByteArray.empty]):=⟨Tryz.underlying25,by kernel_rfl,by decide,by decide,by decide⟩
theorem b6e(a b:ByteArray):(a.toList == b.toList)=decide (a=b):=by
 rw[Bool.eq_iff_iff,beq_iff_eq,decide_eq_true_eq]
 constructor
 ·intro e
  have h2:a.data.toList=b.data.toList:=by rw[← ByteArray.toList_eq,← ByteArray.toList_eq];exact e
  cases a;cases b
  simpa using h2
 ·rintro rfl;rfl
end fs
namespace fs
set_option maxRecDepth 100000
open sec
open ly
open lk
open pa
open al
theorem b3l{t:List Nd}{i:Nat}(h:i<t.length):t.set i (t.getD i nd0)=t:=by
 apply List.ext_getElem
 ·simp
 ·intro j h1 h2
  rw[List.getElem_set]
  split
  ·rename_i e;subst e;simp[List.getD,h]
  ·rfl
end fs
namespace fs
set_option maxRecDepth 100000
open Go.ChangeShapes Go.WideShapes Go.ChangeAt Go.RowKit
open rows
open sec
open dsk (a0c)
open ly
open pa
open lk
def AtN(w:World)(g:Nat)(x:Nd):Prop:=w.heap[g]? = some (.cells #[.string x.path,.bool x.dir,.string x.data] 35 (0,0))
theorem AtN.lt{w:World}{g:Nat}{x:Nd}(h:AtN w g x):g<w.heap.size:=(Array.getElem?_eq_some_iff.1 h).1
theorem AtN.later{w w':World}{g:Nat}{x:Nd}(h:AtN w g x)(k:Below w.heap.size w w'):AtN w' g x:=(k.block g h.lt).trans h
theorem a1a(w:World)(x:Nd):AtN (w.alloc (.cells #[.string x.path,.bool x.dir,.string x.data] 35)) w.heap.size x:=heap_alloc_new _ _
theorem AtN.c0{w:World}{g:Nat}{x:Nd}(h:AtN w g x):w.cell? ⟨g,0,none⟩=some (.string x.path):=a0c h 0 _ rfl
theorem AtN.c1{w:World}{g:Nat}{x:Nd}(h:AtN w g x):w.cell? ⟨g,1,none⟩=some (.bool x.dir):=a0c h 1 _ rfl
theorem AtN.c2{w:World}{g:Nat}{x:Nd}(h:AtN w g x):w.cell? ⟨g,2,none⟩=some (.string x.data):=a0c h 2 _ rfl
theorem a1g:(Tryz.prog.info? 35).map (·.size)=some 3:=by kernel_rfl
theorem a1q{ops:Array Oper}{rest:List Oper}{o:Oper}{a:Act}{w:World}{Q:Exit→Act→World→Prop}(hgd:o.guard=none)(x:Operand)(ho:o.op = .load 35 x)
  (b off:Nat) (hx:a.eval x = .pointer (some ⟨b,off,none⟩)) (y:Nd) (h0:w.cell? ⟨b,off,none⟩=some (.string y.path)) (h1:w.cell? ⟨b,off+1,none⟩=some (.bool y.dir)) (h2:w.cell? ⟨b,off+2,none⟩=some (.string y.data))
  (h:wpList Tryz.prog ops Q rest (a.put o.dst (aggN y)) w):wpList Tryz.prog ops Q (o::rest) a w :=
 wpList_load_mid hgd 35 x ho b off hx [.string y.path,.bool y.dir,.string y.data] _ (fun j u hj=>by
  match j,hj with
  | 0,hj=>cases hj;exact h0
  | 1,hj=>cases hj;exact h1
  | 2,hj=>cases hj;exact h2
  | j+3,hj=>simp at hj) Tryz.underlying35 rfl (by rw[a1g];rfl) h
end fs
namespace vw
set_option maxRecDepth 100000
open rows
open sec
open ly
open pa
open lk
open fs (b3f)
theorem c0i{ss:List (List Int)}{d:Int}{x:ByteArray}{k:Nat}(h:inB ss d x k=true):isNm (bys x)=true:=by
 rw[inB,Bool.and_eq_true,Bool.and_eq_true,decide_eq_true_eq,decide_eq_true_eq,standB,Bool.and_eq_true] at h
 have:=(b3f h.1.1.1).2.2.2.2
 rw[h.2,a8x] at this
 exact this
theorem b5f{ss:List (List Int)}{d:Int}{x:ByteArray}(h:x∈listV ss d):isNm (bys x)=true:=by
 obtain⟨k,_,_,hb⟩:=b8k h
 exact c0i hb
end vw
namespace vw
set_option maxRecDepth 100000
open Go.ChangeShapes Go.WideShapes Go.ChangeAt Go.RowKit
open rows
open sec
open ly
open pa
def qU(s:ByteArray)(i:Nat):List Int:=34::(((bys s).take i).map signL).flatten
theorem qU_succ(s:ByteArray){i:Nat}(h:i<s.size):qU s (i+1)=qU s i++signL (s[i].toNat:Int):=by
 have hl:i<(bys s).length:=by rw[a0d];exact h
 have e:(bys s)[i]=(s[i].toNat:Int):=Option.some.inj ((List.getElem?_eq_getElem hl).symm.trans (b6k s i h))
 rw[qU,qU,List.take_succ_eq_append_getElem hl,List.map_append,List.flatten_append,e]
 simp
theorem qU_all(s:ByteArray):qU s s.size++[34]=quoteL (bys s):=by
 rw[qU,quoteL,← a0d,List.take_length];rfl
theorem qU_len(s:ByteArray)(i:Nat):(qU s i).length≤3 * s.size+1:=by
 have:=(a4g ((bys s).take i)).2
 have h2:((bys s).take i).length≤s.size:=by rw[List.length_take,a0d];omega
 rw[qU,List.length_cons];omega
def UqAt(s:ByteArray)(j:Nat)(out:List Int):Prop:=j+2≤s.size∧unquoteL (bys s)=(unqL ((((bys s).drop 1).take (s.size-2)).drop j)).map (out ++ ·)∧(∀x∈out,0≤x∧x<256)∧out.length≤j
theorem b8y{s:ByteArray}(h2:2≤s.size)(h0:(bys s).getD 0 0=34)(h1:(bys s).getD (s.size-1) 0=34):UqAt s 0 []:=by
 refine⟨by omega,?_,fun x hx=>(nomatch hx),Nat.le_refl _⟩
 rw[unquoteL,if_neg (by rw[a0d];omega),a0d,List.drop_zero]
 cases unqL _<;>simp
theorem a3e{s:ByteArray}(j:Nat)(h:j+2≤s.size):((((bys s).drop 1).take (s.size-2)).drop j).length=s.size-2-j:=by
 rw[List.length_drop,List.length_take,List.length_drop,a0d];omega
theorem b2u{s:ByteArray}(j:Nat):∀x∈(((bys s).drop 1).take (s.size-2)).drop j,0≤x∧x<256:=fun x hx=>a0n s x (List.mem_of_mem_drop (List.mem_of_mem_take (List.mem_of_mem_drop hx)))
theorem uq_step{s:ByteArray}{j:Nat}{out:List Int}(h:UqAt s j out){c:Int}{n:Nat}(hs:stepL ((((bys s).drop 1).take (s.size-2)).drop j)=some (c,n)):UqAt s (j+n) (out++[c])∧1≤n∧(0≤c∧c<256):=by
 obtain⟨h1,h2,h3,h4⟩:=h
 obtain⟨hc,n1,nl,_,_⟩:=a4a (b2u j) hs
 rw[a3e j h1] at nl
 refine⟨⟨by omega,?_,fun x hx => ?_,by rw[List.length_append,List.length_singleton];omega⟩,n1,hc⟩
 ·rw[h2,c0a (b2u j) hs,List.drop_drop]
  cases unqL ((((bys s).drop 1).take (s.size-2)).drop (j+n))<;>simp
 ·rcases List.mem_append.1 hx with hx|hx
  ·exact h3 x hx
  ·rw[List.mem_singleton.1 hx];exact hc
theorem uq_stop{s:ByteArray}{j:Nat}{out:List Int}(h:UqAt s j out)(hj:j+2<s.size)(hs:stepL ((((bys s).drop 1).take (s.size-2)).drop j)=none):unquoteL (bys s)=none:=by
 rw[h.2.1,b9u (by intro e;have:=a3e j h.1;rw[e] at this;simp at this;omega) hs];rfl
theorem uq_done{s:ByteArray}{j:Nat}{out:List Int}(h:UqAt s j out)(hj:s.size≤j+2):unquoteL (bys s)=some out:=by
 have h0:=a3e j h.1
 rw[h.2.1,show (((bys s).drop 1).take (s.size-2)).drop j=[] from List.eq_nil_of_length_eq_zero (by omega),unq_nil];simp
end vw
namespace vw
set_option maxRecDepth 100000
open Go.ChangeShapes Go.WideShapes Go.ChangeAt Go.RowKit
open rows
open sec
open ly
open pa
theorem u8_lt(b:UInt8):(b.toNat:Int)<256:=by have:=b.toNat_lt;omega
def hv(x:Int):Int:=(hexV x).getD 0
end vw
end Go.Proofs.YtjedjkjhodgidaaGreatDoor
