/- What SfsRenames wants, part 38. -/
import Derived.Test.YtiaapfijbidgnaaGreatDoorSfsRenamesB
import Derived.Test.YtiaapfijbidgnaaGreatDoorSfsRenamesP
import Derived.Test.YtiaapfijbidgnaaGreatDoorSfsRenamesT
import Derived.Test.YtiaapfijbidgnaaGreatDoorSfsRenamesZG
import Derived.Test.YtiaapfijbidgnaaGreatDoorSfsRenamesZK
set_option linter.unusedVariables false
set_option linter.unusedSimpArgs false
namespace Go.Proofs.YtiaapfijbidgnaaGreatDoor
namespace fs
set_option maxRecDepth 100000
open rows
open sec
open dsk (St Wr st0 writeR barrier w0)
open ly
open pa
open lk
open al
def Uniq(ss:List (List Int)):Prop:=∀j k:Nat,j<24→k<24→(entAt ss (j:Int)).used=true→(entAt ss (k:Int)).used=true→(entAt ss (j:Int)).parent=(entAt ss (k:Int)).parent→(entAt ss (j:Int)).name=(entAt ss (k:Int)).name→j=k
theorem b4u{ss:List (List Int)}{n:Int}{x:ByteArray}{k:Nat}(h:inB ss n x k=true):(entAt ss (k:Int)).used=true∧(inoAt ss (entAt ss (k:Int)).target).kind≠0∧(entAt ss (k:Int)).parent=n∧(entAt ss (k:Int)).name=x:=by
 rw[inB,standB] at h
 simp only[Bool.and_eq_true,decide_eq_true_eq,Bool.not_eq_true',decide_eq_false_iff_not] at h
 exact⟨h.1.1.1,h.1.1.2,h.1.2,h.2⟩
theorem d5l{ss:List (List Int)}{n:Int}{x:ByteArray}{k:Nat}(h1:(entAt ss (k:Int)).used=true)(h2:(inoAt ss (entAt ss (k:Int)).target).kind≠0)(h3:(entAt ss (k:Int)).parent=n)(h4:(entAt ss (k:Int)).name=x):inB ss n x k=true:=by
 rw[inB,standB,h1,h3,h4,decide_eq_false h2,decide_eq_true rfl,decide_eq_true rfl];rfl
theorem b9g{ss:List (List Int)}(hu:Uniq ss){n:Int}{x:ByteArray}{k:Nat}(hk:k<24)(h:inB ss n x k=true):findO ss n x=some k:=by
 obtain⟨a1,_,a3,a4⟩:=b4u h
 cases hf:findO ss n x with
 | none =>
  have:=upto_none.1 hf k hk
  rw[h] at this;cases this
 | some j =>
  obtain⟨h1,h2,_⟩:=a1n hf
  obtain⟨b1,_,b3,b4⟩:=b4u h2
  rw[hu j k h1 hk b1 a1 (b3.trans a3.symm) (b4.trans a4.symm)]
theorem b9f{ss ss':List (List Int)}(hi:∀z,inoAt ss' z=inoAt ss z)
  (he:∀k:Nat,k<24→(entAt ss (k:Int)).used=true→(inoAt ss (entAt ss (k:Int)).target).kind=2→entAt ss' (k:Int)=entAt ss (k:Int)) (hu:Uniq ss') :
  ∀(r:List (List Int)) (n m:Int),lookG ss n r=(m,0)→(inoAt ss m).kind=2→lookG ss' n r=(m,0)
 | [],n,m,h,_=>by rw[lookG] at h ⊢;exact h
 | x::r,n,m,h,hm=>by
  by_cases hn:(inoAt ss n).kind=2
  ·cases hf:findO ss n (strOfNums x) with
   | none=>rw[a3w hn hf] at h;exact absurd (show (4:Int)=0 from congrArg Prod.snd h) (by decide)
   | some k =>
    rw[a2x hn hf] at h
    obtain⟨h1,h2,_⟩:=a1n hf
    obtain⟨b1,b2,b3,b4⟩:=b4u h2
    have ht:(inoAt ss (entAt ss (k:Int)).target).kind=2:=by
     cases r with
     | nil=>rw[lookG] at h;rw[show (entAt ss (k:Int)).target=m from congrArg Prod.fst h];exact hm
     | cons y r =>
      apply Classical.byContradiction;intro hne
      rw[a3x hne] at h;exact absurd (show (6:Int)=0 from congrArg Prod.snd h) (by decide)
    have e:=he k h1 b1 ht
    have hf':findO ss' n (strOfNums x)=some k:=b9g hu h1 (d5l (by rw[e];exact b1) (by rw[e,hi];exact b2) (by rw[e];exact b3) (by rw[e];exact b4))
    rw[a2x (by rw[hi];exact hn) hf',e]
    exact b9f hi he hu r _ m h hm
  ·rw[a3x hn] at h;exact absurd (show (6:Int)=0 from congrArg Prod.snd h) (by decide)
theorem b8l{ss:List (List Int)}(hl:ss.length=65)(hs:Secs ss)(ht:ss.getD 0 zero32=emptyImg.getD 0 zero32)(hr:(inoAt ss 0).kind=2):mountsB ss=true:=by
 have h0:=a6b
 rw[mountsB,Bool.and_eq_true,Bool.and_eq_true,decide_eq_true_eq,decide_eq_true_eq,decide_eq_true_eq] at h0 ⊢
 have e0:∀l:List (List Int),l.length=65→∀i,i<65→l.getD i []=l.getD i zero32:=fun l h i hi=>by
  rw[List.getD,List.getD,List.getElem?_eq_getElem (by omega)];rfl
 refine⟨hl,?_,?_⟩
 ·rw[e0 ss hl 0 (by omega),ht,← e0 emptyImg h0.1 0 (by omega)];exact h0.2.1
 ·have h1:(1:Nat)<ss.length:=by omega
  have e1:ss.getD 1 []=secAt ss 1:=by
   rw[show (1:Int)=((1:Nat):Int) from rfl,c2k h1,List.getD,List.getElem?_eq_getElem h1];rfl
  have hk:(inoOfV (secAt ss 1)).kind=2:=by
   rw[inoAt,if_pos (by omega)] at hr;exact hr
  have hb:inoOfB (secAt ss 1)=true:=by
   cases hc:inoOfB (secAt ss 1) with
   | true=>rfl
   | false =>
    rw[inoOfV,if_neg (by rw[hc];decide)] at hk
    exact absurd hk (by decide)
  have:=d1j (a1b hs 1)
  rw[hb,hk,Bool.true_and] at this
  rw[e1]
  exact of_decide_eq_true this.symm
def Good(ss:List (List Int))(u:ByteArray)(v:List Int):Prop:=mountsB ss=true∧readV ss u=(v,0)
theorem b7h{ss:List (List Int)}{u:ByteArray}{dm:List (List Int)}{y:List Int}{n:Int}(hp:u=strOfNums (joinP (dm++[y])))(hN:∀z∈dm++[y],isNm z=true)(h4:(dm++[y]).length≤4)(h:lookG ss 0 (dm++[y])=(n,0))(hk:(inoAt ss n).kind=1):readV ss u=(readL ss (inoAt ss n),0):=by
 have hv:lookV ss (bys u)=(n,0):=by rw[hp,b2j hN h4];exact h
 have hf:fileV ss u=(n,inoAt ss n,0):=by
  have:=b4f (ss:=ss) (s:=u) (by rw[hv]) (by rw[hv];exact hk)
  rw[this,hv]
 rw[readV,hf];rfl
theorem a7t{ss ss':List (List Int)}(F:Fit ss)(hl:ss'.length=65)(hs:Secs ss')(ht:ss'.getD 0 zero32=emptyImg.getD 0 zero32)(hi:∀z,inoAt ss' z=inoAt ss z)
  (hrd:∀z,(inoAt ss z).kind=1→readL ss' (inoAt ss z)=readL ss (inoAt ss z)) {u:ByteArray} {dm:List (List Int)} {y:List Int} {c:Int} (Q:Spt ss u dm y c) {b:Nat} (hb:b<24) {n:Int} (hn:(inoAt ss n).kind=1)
  (hx:entAt ss' (b:Int)=⟨true,c,strOfNums y,n⟩) (hbf:(entAt ss (b:Int)).used=true→(inoAt ss (entAt ss (b:Int)).target).kind≠2)
  (hno:∀j:Nat,j<24→j≠b→(entAt ss (j:Int)).used=true→(entAt ss (j:Int)).parent=c→(entAt ss (j:Int)).name≠strOfNums y)
  (hE:∀j:Nat,j<24→j≠b→entAt ss' (j:Int)=entAt ss (j:Int)∨((entAt ss' (j:Int)).used=false∧((entAt ss (j:Int)).used=true→(inoAt ss (entAt ss (j:Int)).target).kind≠2))):Good ss' u (readL ss (inoAt ss n)):=by
 have key:∀j:Nat,j<24→j≠b→(entAt ss' (j:Int)).used=true→entAt ss' (j:Int)=entAt ss (j:Int):=fun j hj hjb hu=>by
  rcases hE j hj hjb with h|h
  ·exact h
  ·rw[h.1] at hu;cases hu
 have hU:Uniq ss':=fun j k hj hk uj uk hp hm=>by
  by_cases ej:j=b
  ·by_cases ek:k=b
   ·rw[ej,ek]
   ·have e:=key k hk ek uk
    rw[ej,hx] at hp hm
    rw[e] at hp hm uk
    exact absurd hm.symm (hno k hk ek uk hp.symm)
  ·have e:=key j hj ej uj
   by_cases ek:k=b
   ·rw[ek,hx] at hp hm
    rw[e] at hp hm uj
    exact absurd hm (hno j hj ej uj hp)
   ·have e2:=key k hk ek uk
    rw[e] at uj
    rw[e2] at uk
    rw[e,e2] at hp hm
    exact F.uniq j k hj hk uj uk hp hm
 have hway:lookG ss' 0 dm=(c,0):=b9f hi (fun k hk hu hk2=>by
  by_cases ek:k=b
  ·subst ek;exact absurd hk2 (hbf hu)
  ·rcases hE k hk ek with h|h
   ·exact h
   ·exact absurd hk2 (h.2 hu)) hU dm 0 c Q.way Q.dir
 have hin:inB ss' c (strOfNums y) b=true:=d5l (by rw[hx]) (by rw[hx,hi];show (inoAt ss n).kind≠0;omega) (by rw[hx]) (by rw[hx])
 have hlk:lookG ss' 0 (dm++[y])=(n,0):=by
  rw[a2i,hway,if_pos rfl,a2x (by rw[hi];exact Q.dir) (b9g hU hb hin),hx];rfl
 refine⟨b8l hl hs ht (by rw[hi];exact F.root),?_⟩
 rw[b7h Q.path Q.names Q.few hlk (by rw[hi];exact hn),hi,hrd n hn]
theorem b3h{ss:List (List Int)}(hl:ss.length=65)(x:Wr)(hx:1≤x.pos∧x.pos<65):doR (st0 ss) [x]=(0,⟨ss,[⟨x.pos,x.s,x.kind,x.id,0⟩],0,[(1,⟨x.pos,x.s,x.kind,x.id,0⟩,[])],[],1⟩):=by
 have hin:0≤x.pos∧x.pos<((st0 ss).safe.length:Int):=by show 0≤x.pos∧x.pos<(ss.length:Int);rw[hl];omega
 have hw:writeR (st0 ss) x.pos x.s x.kind x.id=(0,⟨ss,[⟨x.pos,x.s,x.kind,x.id,0⟩],0,[(1,⟨x.pos,x.s,x.kind,x.id,0⟩,[])],[],1⟩):=by
  rw[writeR,if_pos hin,if_neg (by show ¬decide ((0:Int)∈([]:List Int))=true;decide)];rfl
 rw[doR,hw,if_neg (by simp),doR]
theorem c3s{ss:List (List Int)}(hl:ss.length=65)(x y:Wr)(hx:1≤x.pos∧x.pos<65)(hy:1≤y.pos∧y.pos<65):(moveR (st0 ss) x y).2.log=[(1,⟨x.pos,x.s,x.kind,x.id,0⟩,[]),(3,w0,[]),(1,⟨y.pos,y.s,y.kind,y.id,1⟩,[])]:=by
 have h1:=b3h hl x hx
 have h2:barrier (⟨ss,[⟨x.pos,x.s,x.kind,x.id,0⟩],0,[(1,⟨x.pos,x.s,x.kind,x.id,0⟩,[])],[],1⟩:St)=(0,⟨ss,[⟨x.pos,x.s,x.kind,x.id,0⟩],1,[(1,⟨x.pos,x.s,x.kind,x.id,0⟩,[]),(3,w0,[])],[],2⟩):=by
  rw[barrier,if_neg (by show ¬decide ((1:Int)∈([]:List Int))=true;decide)];rfl
 have hin:0≤y.pos∧y.pos<(ss.length:Int):=by rw[hl];omega
 have h3:writeR (⟨ss,[⟨x.pos,x.s,x.kind,x.id,0⟩],1,[(1,⟨x.pos,x.s,x.kind,x.id,0⟩,[]),(3,w0,[])],[],2⟩:St) y.pos y.s y.kind y.id=(0,⟨ss,[⟨x.pos,x.s,x.kind,x.id,0⟩,⟨y.pos,y.s,y.kind,y.id,1⟩],1,[(1,⟨x.pos,x.s,x.kind,x.id,0⟩,[]),(3,w0,[]),(1,⟨y.pos,y.s,y.kind,y.id,1⟩,[])],[],3⟩):=by
  rw[writeR,if_pos hin,if_neg (by show ¬decide ((2:Int)∈([]:List Int))=true;decide)];rfl
 rw[moveR,h1,if_neg (by simp),h2,if_neg (by simp),doR,h3,if_neg (by simp),doR]
def RenOne(ss:List (List Int))(u:ByteArray)(v:List Int)(l:List dsk.Ev):Prop:=∃x:Wr,x.ok∧(1≤x.pos∧x.pos<65)∧l=[(1,x,[])]∧x.ep=0∧Good (ss.set x.pos.toNat x.s) u v
def RenTwo(ss:List (List Int))(u:ByteArray)(v:List Int)(l:List dsk.Ev):Prop:=∃x y:Wr,x.ok∧y.ok∧(1≤x.pos∧x.pos<65)∧(1≤y.pos∧y.pos<65)∧l=[(1,x,[]),(3,w0,[]),(1,y,[])]∧x.ep=0∧y.ep=1∧Good (ss.set x.pos.toNat x.s) u v∧Good ((ss.set x.pos.toNat x.s).set y.pos.toNat y.s) u v
theorem a5u{ss:List (List Int)}{k:Nat}{x:Ent}(h:ss.getD 0 zero32=emptyImg.getD 0 zero32):(setE ss k x).getD 0 zero32=emptyImg.getD 0 zero32:=by
 rw[← h,setE]
 have:17+k≠0:=by omega
 simp[List.getD,List.getElem?_set,this]
theorem a2r{ss:List (List Int)}(hs:Secs ss)(k:Nat)(x:Ent):Secs (setE ss k x):=a2a hs (a0x x) _
theorem d0k{x:List Int}(h:isNm x=true):nameB (strOfNums x)=true:=by rw[a5i,a0o (a2n h)];exact h
theorem c4y{d n:Int}{nm:ByteArray}(hd:0≤d∧d<16)(hm:nameB nm=true)(hn:1≤n∧n<16):rightE ⟨true,d,nm,n⟩=true:=by
 rw[a1z rfl]
 simp only[Bool.and_eq_true,decide_eq_true_eq]
 exact⟨⟨⟨⟨hd.1,hd.2⟩,hn.1⟩,hn.2⟩,hm⟩
theorem a7w{k:Nat}(hk:k<24){f:Int}{x:Ent}(hf:0≤f∧f<16):(wEnt (k:Int) x f).ok:=b1m (by omega) (by omega)
set_option maxHeartbeats 2000000 in
theorem d4i{ss:List (List Int)}{t:List Nd}(I:Inv ss t)(ht:ss.getD 0 zero32=emptyImg.getD 0 zero32){s u:ByteArray}{v:List Int}(hr:readV ss s=(v,0))(h0:(renameV (st0 ss) s u).1=0) :
  (renameV (st0 ss) s u).2.log=[]∨RenOne ss u v (renameV (st0 ss) s u).2.log∨RenTwo ss u v (renameV (st0 ss) s u).2.log:=by
 have F:=I.sim.fit
 have hl:=F.len
 have hs:=F.secs
 obtain⟨_,e2⟩:=a4a I.sim s
 obtain⟨_,e4⟩:=a4a I.sim u
 have hren:renameV (st0 ss) s u=renameV (st0 ss) s u:=rfl
 conv at hren=>rhs;unfold renameV
 rw[a7k] at hren
 simp only at hren
 by_cases p1:errP (bys s)=0
 case neg=>rw[if_pos p1] at hren;rw[hren] at h0;exact absurd h0 p1
 rw[if_neg (a1o p1)] at hren
 by_cases p2:errP (bys u)=0
 case neg=>rw[if_pos p2] at hren;rw[hren] at h0;exact absurd h0 p2
 rw[if_neg (a1o p2)] at hren
 by_cases q1:(placeV ss s).2=0
 case neg=>rw[if_pos q1] at hren;rw[hren] at h0;exact absurd h0 q1
 rw[if_neg (a1o q1)] at hren
 obtain⟨dn,x,d,P,hp⟩:=e2 q1
 rw[hp] at hren
 simp only at hren
 cases hf:findO ss d (strOfNums x) with
 | none =>
  rw[hf] at hren
  rw[if_pos (show (none:Option Nat).isSome=false from rfl)] at hren
  rw[hren] at h0;exact absurd (show (4:Int)=0 from h0) (by decide)
 | some a =>
  rw[hf] at hren
  rw[if_neg (by simp)] at hren
  simp only[Option.getD_some] at hren
  by_cases q2:(placeV ss u).2=0
  case neg=>rw[if_pos q2] at hren;rw[hren] at h0;exact absurd h0 q2
  rw[if_neg (a1o q2)] at hren
  obtain⟨dm,y,c,Q,hq⟩:=e4 q2
  rw[hq] at hren
  simp only at hren
  obtain⟨i,_,hi,ha,hsm,hw⟩:=a5d I.sim P hf
  have hk1:(inoAt ss (entAt ss (a:Int)).target).kind=1∧v=readL ss (inoAt ss (entAt ss (a:Int)).target):=by
   have hv:lookV ss (bys s)=((entAt ss (a:Int)).target,0):=by rw[P.path,b2j P.names P.few];exact hw
   by_cases hk:(inoAt ss (entAt ss (a:Int)).target).kind=1
   ·refine⟨hk,?_⟩
    have:=b7h P.path P.names P.few hw hk
    rw[hr] at this
    exact congrArg Prod.fst this
   ·have:=b9k (ss:=ss) (s:=s) (by rw[hv]) (by rw[hv];exact hk)
    rw[readV,this,if_pos (by decide)] at hr
    exact absurd (show (6:Int)=0 from congrArg Prod.snd hr) (by decide)
  obtain⟨hk,rfl⟩:=hk1
  have hau:=hsm.used
  have hdn:=b5g P.dir
  have hdm:=b5g Q.dir
  have htg:=a1j hau
  have hnm:nameB (strOfNums y)=true:=by
   have:=Q.names y (by simp)
   exact d0k this
  have hxr:rightE ⟨true,c,strOfNums y,(entAt ss (a:Int)).target⟩=true:=c4y hdm hnm ⟨htg.2.2.1,htg.2.2.2.1⟩
  by_cases hself:s=u∨((findO ss c (strOfNums y)).isSome=true∧(((findO ss c (strOfNums y)).getD 0:Nat):Int)=(a:Int))
  ·rw[if_pos hself] at hren
   rw[hren];exact Or.inl rfl
  ·rw[if_neg hself] at hren
   have hnd:decide ((inoAt ss (entAt ss (a:Int)).target).kind=2)=false:=decide_eq_false (by omega)
   rw[hnd,if_neg (by simp)] at hren
   cases hg:findO ss c (strOfNums y) with
   | some b =>
    rw[hg] at hren hself
    obtain⟨b1,b2,b3,b4⟩:=(a3r F).1 hg
    have hab:a≠b:=fun e=>hself (Or.inr ⟨rfl,by rw[e];rfl⟩)
    simp only[Option.getD_some,Option.isSome_some,if_true,false_or,Bool.false_eq_true] at hren
    by_cases hkb:(inoAt ss (entAt ss (b:Int)).target).kind=2
    ·rw[if_pos hkb] at hren
     rw[hren] at h0;exact absurd (show (5:Int)=0 from h0) (by decide)
    ·rw[if_neg hkb] at hren
     right;right
     rw[hren]
     have hno:∀j:Nat,j<24→j≠b→(entAt ss (j:Int)).used=true→(entAt ss (j:Int)).parent=c→(entAt ss (j:Int)).name≠strOfNums y:=fun j hj hjb uj pj nj =>
      hjb (F.uniq j b hj b1 uj b2 (pj.trans b3.symm) (nj.trans b4.symm))
     refine⟨wEnt (b:Int) ⟨true,c,strOfNums y,(entAt ss (a:Int)).target⟩ c,⟨17+(a:Int),entV ent0,3,d,1⟩,a7w b1 hdm,?_,a3g b1 _ _,a3g ha ent0 d,c3s hl _ _ (a3g b1 _ _) (a3g ha _ _),rfl,rfl,?_,?_⟩
     ·have:=a7w (x:=ent0) ha hdn
      exact⟨this.1,this.2.1,this.2.2.1,this.2.2.2.1,a0f (by show (0:Int)≤1∧(1:Int)<256;omega)⟩
     ·rw[show (wEnt (b:Int) ⟨true,c,strOfNums y,(entAt ss (a:Int)).target⟩ c).pos.toNat=17+b from a3l b _ _]
      have hE:=fun z=>a3d hl b1 hxr z
      refine a7t F (by first|(rw[List.length_set];exact hl)|(rw[a1x];exact hl)) (a2r hs b _) (a5u ht) (fun z=>a1e hl b1 _ z) (fun z hz=>a2h hs b1 _ hz) Q b1 hk ((hE b).trans (if_pos rfl)) (fun _=>hkb) hno (fun j hj hjb=>Or.inl ((hE j).trans (if_neg (by omega))))
     ·rw[show (wEnt (b:Int) ⟨true,c,strOfNums y,(entAt ss (a:Int)).target⟩ c).pos.toNat=17+b from a3l b _ _,show (17+(a:Int)).toNat=17+a by omega]
      have hl1:(setE ss b ⟨true,c,strOfNums y,(entAt ss (a:Int)).target⟩).length=65:=by rw[a1x];exact hl
      have hE:=fun z=>a3d hl b1 hxr z
      have hE2:=fun z=>a4g hl1 ha z
      have hi1:=fun z=>a1e hl b1 ⟨true,c,strOfNums y,(entAt ss (a:Int)).target⟩ z
      have hi2:=fun z=>a1e hl1 ha ent0 z
      have hrd:∀z,(inoAt ss z).kind=1→readL (setE (setE ss b ⟨true,c,strOfNums y,(entAt ss (a:Int)).target⟩) a ent0) (inoAt ss z)=readL ss (inoAt ss z):=fun z hz=>by
       have h1:=a2h (a2r hs b ⟨true,c,strOfNums y,(entAt ss (a:Int)).target⟩) ha ent0 (z:=z) (by rw[hi1];exact hz)
       rw[hi1] at h1
       exact h1.trans (a2h hs b1 _ hz)
      refine a7t (ss':=setE (setE ss b ⟨true,c,strOfNums y,(entAt ss (a:Int)).target⟩) a ent0) F (by rw[a1x];exact hl1) (a2r (a2r hs b _) a _) (a5u (a5u ht)) (fun z=>(hi2 z).trans (hi1 z)) hrd Q b1 hk ((hE2 b).trans ((if_neg (by omega)).trans ((hE b).trans (if_pos rfl)))) (fun _=>hkb) hno (fun j hj hjb => ?_)
      by_cases hja:j=a
      ·subst hja
       exact Or.inr ⟨by rw[hE2,if_pos rfl];rfl,fun _=>by omega⟩
      ·exact Or.inl ((hE2 j).trans ((if_neg (by omega)).trans ((hE j).trans (if_neg (by omega)))))
   | none =>
    rw[hg] at hren
    simp only[Option.isSome_none,Bool.false_eq_true,if_false] at hren
    have hno:∀j:Nat,j<24→(entAt ss (j:Int)).used=true→(entAt ss (j:Int)).parent=c→(entAt ss (j:Int)).name≠strOfNums y:=(a6m F).1 hg
    by_cases hdc:d=c
    ·rw[if_pos hdc] at hren
     right;left
     rw[hren,b3h hl _ (a3g ha _ _)]
     refine⟨wEnt (a:Int) ⟨true,c,strOfNums y,(entAt ss (a:Int)).target⟩ c,a7w ha hdm,a3g ha _ _,rfl,rfl,?_⟩
     rw[show (wEnt (a:Int) ⟨true,c,strOfNums y,(entAt ss (a:Int)).target⟩ c).pos.toNat=17+a from a3l a _ _]
     have hE:=fun z=>a3d hl ha hxr z
     exact a7t F (by first|(rw[List.length_set];exact hl)|(rw[a1x];exact hl)) (a2r hs a _) (a5u ht) (fun z=>a1e hl ha _ z) (fun z hz=>a2h hs ha _ hz) Q ha hk ((hE a).trans (if_pos rfl)) (fun _=>by omega) (fun j hj _=>hno j hj) (fun j hj hjb=>Or.inl ((hE j).trans (if_neg (by omega))))
    ·rw[if_neg hdc] at hren
     cases hfe:frE ss with
     | none =>
      rw[hfe] at hren
      rw[hren] at h0;exact absurd (show (2:Int)=0 from h0) (by decide)
     | some b =>
      rw[hfe] at hren
      simp only at hren
      obtain⟨b1,b2⟩:=a8d hfe
      have hab:a≠b:=fun e=>by rw[← e,hau] at b2;cases b2
      right;right
      rw[hren]
      refine⟨wEnt (b:Int) ⟨true,c,strOfNums y,(entAt ss (a:Int)).target⟩ c,⟨17+(a:Int),entV ent0,3,d,1⟩,a7w b1 hdm,?_,a3g b1 _ _,a3g ha ent0 d,c3s hl _ _ (a3g b1 _ _) (a3g ha _ _),rfl,rfl,?_,?_⟩
      ·have:=a7w (x:=ent0) ha hdn
       exact⟨this.1,this.2.1,this.2.2.1,this.2.2.2.1,a0f (by show (0:Int)≤1∧(1:Int)<256;omega)⟩
      ·rw[show (wEnt (b:Int) ⟨true,c,strOfNums y,(entAt ss (a:Int)).target⟩ c).pos.toNat=17+b from a3l b _ _]
       have hE:=fun z=>a3d hl b1 hxr z
       refine a7t F (by first|(rw[List.length_set];exact hl)|(rw[a1x];exact hl)) (a2r hs b _) (a5u ht) (fun z=>a1e hl b1 _ z) (fun z hz=>a2h hs b1 _ hz) Q b1 hk ((hE b).trans (if_pos rfl)) (fun h=>by rw[b2] at h;cases h) (fun j hj _=>hno j hj) (fun j hj hjb=>Or.inl ((hE j).trans (if_neg (by omega))))
      ·rw[show (wEnt (b:Int) ⟨true,c,strOfNums y,(entAt ss (a:Int)).target⟩ c).pos.toNat=17+b from a3l b _ _,show (17+(a:Int)).toNat=17+a by omega]
       have hl1:(setE ss b ⟨true,c,strOfNums y,(entAt ss (a:Int)).target⟩).length=65:=by rw[a1x];exact hl
       have hE:=fun z=>a3d hl b1 hxr z
       have hE2:=fun z=>a4g hl1 ha z
       have hi1:=fun z=>a1e hl b1 ⟨true,c,strOfNums y,(entAt ss (a:Int)).target⟩ z
       have hi2:=fun z=>a1e hl1 ha ent0 z
       have hrd:∀z,(inoAt ss z).kind=1→readL (setE (setE ss b ⟨true,c,strOfNums y,(entAt ss (a:Int)).target⟩) a ent0) (inoAt ss z)=readL ss (inoAt ss z):=fun z hz=>by
        have h1:=a2h (a2r hs b ⟨true,c,strOfNums y,(entAt ss (a:Int)).target⟩) ha ent0 (z:=z) (by rw[hi1];exact hz)
        rw[hi1] at h1
        exact h1.trans (a2h hs b1 _ hz)
       refine a7t (ss':=setE (setE ss b ⟨true,c,strOfNums y,(entAt ss (a:Int)).target⟩) a ent0) F (by rw[a1x];exact hl1) (a2r (a2r hs b _) a _) (a5u (a5u ht)) (fun z=>(hi2 z).trans (hi1 z)) hrd Q b1 hk ((hE2 b).trans ((if_neg (by omega)).trans ((hE b).trans (if_pos rfl)))) (fun h=>by rw[b2] at h;cases h) (fun j hj _=>hno j hj) (fun j hj hjb => ?_)
       by_cases hja:j=a
       ·subst hja
        exact Or.inr ⟨by rw[hE2,if_pos rfl];rfl,fun _=>by omega⟩
       ·exact Or.inl ((hE2 j).trans ((if_neg (by omega)).trans ((hE j).trans (if_neg (by omega)))))
end fs
namespace fs
set_option maxRecDepth 100000
open rows
open sec
open choMath
open dsk (Wr wf64 w0 Ev evOk1 evOk3 atOk atSt imgOk imgUpto imgStep missB eps)
open ly
open lk
def RenAny(ss:List (List Int))(u:ByteArray)(v:List Int)(es:List Ev):Prop:=es=[]∨RenOne ss u v es∨RenTwo ss u v es
structure CrashOk (ss:List (List Int)) (u:ByteArray) (v:List Int) (ws:List Wr):Prop where
 few:ws.length≤2
 secs:∀x∈ws,Sec x.s
 none_:imgOk 0 ws 65=true
 img:∀c,c=0∨c=1∨c=4∨c=5→imgOk c ws 65=true→imgUpto c ws ss ws.length=ss∨Good (imgUpto c ws ss ws.length) u v
theorem c0j{x:Wr}(h:1≤x.pos∧x.pos<65):missB 65 x=false:=by
 rw[missB,decide_eq_true (by omega)];rfl
theorem c4e(ss:List (List Int))(u:ByteArray)(v:List Int):CrashOk ss u v [] :=
 ⟨by simp,fun x hx=>(by cases hx),by decide,fun c _ _=>Or.inl rfl⟩
theorem d0m{ss:List (List Int)}{u:ByteArray}{v:List Int}{x:Wr}(hs:Sec x.s)(hp:1≤x.pos∧x.pos<65)(he:x.ep=0)(hg:Good (ss.set x.pos.toNat x.s) u v):CrashOk ss u v [x]:=by
 have hm:=c0j hp
 have hok:∀c,imgOk c [x] 65=alB c [0]:=fun c=>by
  rw[imgOk];simp only[eps,List.map_cons,List.map_nil,he,List.any_cons,List.any_nil,hm,Bool.or_false,Bool.not_false,Bool.and_true]
 refine⟨by simp,fun y hy=>by rw[List.mem_singleton.1 hy];exact hs,by rw[hok];decide,?_⟩
 intro c hc hi
 rw[hok] at hi
 rcases hc with rfl|rfl|rfl|rfl
 ·left;show imgStep 0 ss 0 x=ss;rw[imgStep,if_neg (by decide),if_neg (by decide)]
 ·right
  have e:imgUpto 1 [x] ss [x].length=ss.set x.pos.toNat x.s:=by
   show imgStep 1 ss 0 x=_
   rw[imgStep,if_pos (by decide)]
  rw[e];exact hg
 ·exact absurd hi (by decide)
 ·exact absurd hi (by decide)
theorem c6o{ss:List (List Int)}{u:ByteArray}{v:List Int}{x y:Wr}(hs:Sec x.s)(hs':Sec y.s)(hp:1≤x.pos∧x.pos<65)(hp':1≤y.pos∧y.pos<65)(he:x.ep=0)(he':y.ep=1)(hg:Good (ss.set x.pos.toNat x.s) u v)(hg':Good ((ss.set x.pos.toNat x.s).set y.pos.toNat y.s) u v):CrashOk ss u v [x,y]:=by
 have hm:=c0j hp
 have hm':=c0j hp'
 have hok:∀c,imgOk c [x,y] 65=alB c [0,1]:=fun c=>by
  rw[imgOk];simp only[eps,List.map_cons,List.map_nil,he,he',List.any_cons,List.any_nil,hm,hm',Bool.or_false,Bool.not_false,Bool.and_true]
 refine⟨by simp,fun z hz => ?_,by rw[hok];decide,?_⟩
 ·rcases List.mem_cons.1 hz with rfl|hz
  ·exact hs
  ·rw[List.mem_singleton.1 hz];exact hs'
 intro c hc hi
 rw[hok] at hi
 have hu:imgUpto c [x,y] ss [x,y].length=imgStep c (imgStep c ss 0 x) 1 y:=rfl
 rcases hc with rfl|rfl|rfl|rfl
 ·left;rw[hu,imgStep,if_neg (by decide),if_neg (by decide),imgStep,if_neg (by decide),if_neg (by decide)]
 ·right
  rw[hu,imgStep,if_neg (by decide),if_neg (by decide),imgStep,if_pos (by decide)];exact hg
 ·exact absurd hi (by decide)
 ·right
  rw[hu,imgStep,if_pos (by decide),imgStep,if_pos (by decide)];exact hg'
theorem d0f{ss:List (List Int)}{u:ByteArray}{v:List Int}{es:List Ev}(h:RenAny ss u v es):∃ws,es.length≤3∧atOk 65 es.length es (es.length:Int)=true∧atSt 65 es.length ss es (es.length:Int)=(ss,ws)∧CrashOk ss u v ws:=by
 rcases h with rfl|⟨x,hx,hp,rfl,he,hg⟩|⟨x,y,hx,hy,hp,hq,rfl,he,he',hg,hg'⟩
 ·exact⟨[],by simp,by decide,rfl,c4e ss u v⟩
 ·have ho:atOk 65 1 [(1,x,[])] 1=true:=by
   simp only[atOk,List.all_cons,List.all_nil,evOk1]
   rw[decide_eq_true (show 0≤x.pos∧x.pos<((65:Nat):Int) by omega)];rfl
  exact⟨[x],by simp,ho,by show atSt 65 1 ss [(1,x,[])] 1=_;rw[atSt,if_pos ho];rfl,d0m hx.1 hp he hg⟩
 ·have ho:atOk 65 3 [(1,x,[]),(3,w0,[]),(1,y,[])] 3=true:=by
   simp only[atOk,List.all_cons,List.all_nil,evOk1,evOk3]
   rw[decide_eq_true (show 0≤x.pos∧x.pos<((65:Nat):Int) by omega),decide_eq_true (show 0≤y.pos∧y.pos<((65:Nat):Int) by omega)];rfl
  exact⟨[x,y],by simp,ho,by show atSt 65 3 ss [(1,x,[]),(3,w0,[]),(1,y,[])] 3=_;rw[atSt,if_pos ho];rfl,c6o hx.1 hy.1 hp hq he he' hg hg'⟩
theorem w0_ok:Wr.ok w0:=⟨a0g,a0f (by decide),a0f (by decide),a0f (by decide),a0f (by decide)⟩
theorem b4x{ss:List (List Int)}{u:ByteArray}{v:List Int}{es:List Ev}(h:RenAny ss u v es):∀e∈es,wf64 e.1∧e.2.1.ok∧e.2.2=[]:=by
 rcases h with rfl|⟨x,hx,hp,rfl,he,hg⟩|⟨x,y,hx,hy,hp,hq,rfl,he,he',hg,hg'⟩
 ·intro e he;cases he
 ·intro e he
  rw[List.mem_singleton.1 he]
  exact⟨a0f (show (0:Int)≤1∧(1:Int)<256 by decide),hx,rfl⟩
 ·intro e he
  rcases List.mem_cons.1 he with rfl|he
  ·exact⟨a0f (show (0:Int)≤1∧(1:Int)<256 by decide),hx,rfl⟩
  ·rcases List.mem_cons.1 he with rfl|he
   ·exact⟨a0f (show (0:Int)≤3∧(3:Int)<256 by decide),w0_ok,rfl⟩
   ·rw[List.mem_singleton.1 he]
    exact⟨a0f (show (0:Int)≤1∧(1:Int)<256 by decide),hy,rfl⟩
theorem d2i(c:Nat):c &&& 5=0∨c &&& 5=1∨c &&& 5=4∨c &&& 5=5:=by
 have h1:c &&& 5≤5:=Nat.and_le_right
 have h2:(c &&& 5) &&& 5=c &&& 5:=by rw[Nat.and_assoc];rfl
 generalize c &&& 5=k at *
 have:k=0∨k=1∨k=2∨k=3∨k=4∨k=5:=by omega
 rcases this with rfl|rfl|rfl|rfl|rfl|rfl
 ·exact Or.inl rfl
 ·exact Or.inr (Or.inl rfl)
 ·exact absurd h2 (by decide)
 ·exact absurd h2 (by decide)
 ·exact Or.inr (Or.inr (Or.inl rfl))
 ·exact Or.inr (Or.inr (Or.inr rfl))
end fs
end Go.Proofs.YtiaapfijbidgnaaGreatDoor
