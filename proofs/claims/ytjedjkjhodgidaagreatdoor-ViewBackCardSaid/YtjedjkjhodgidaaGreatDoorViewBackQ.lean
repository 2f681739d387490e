/- What ViewBack wants, part 17. -/
import Derived.Test.YtjedjkjhodgidaaGreatDoorViewBackB
import Derived.Test.YtjedjkjhodgidaaGreatDoorViewBackD
import Derived.Test.YtjedjkjhodgidaaGreatDoorViewBackI
import Derived.Test.YtjedjkjhodgidaaGreatDoorViewBackK
import Derived.Test.YtjedjkjhodgidaaGreatDoorViewBackP
import Derived.Laws.BytesArg
import Derived.Deep.DrawnRows
import Derived.Laws.CopyOwn
set_option linter.unusedVariables false
set_option linter.unusedSimpArgs false
namespace Go.Proofs.YtjedjkjhodgidaaGreatDoor
namespace ly
set_option maxRecDepth 100000
open Go.RowKit
open rows
open sec
def bys(s:ByteArray):List Int:=s.data.toList.map fun c=>(c.toNat:Int)
def inNm(c:Int):Bool:=decide (97≤c) && decide (c≤122) || (decide (48≤c) && decide (c≤57)) || c == 46 || c == 95
def nameB(s:ByteArray):Bool:=decide (1≤s.size) && decide (s.size≤8) && !(bys s == [46]) && !(bys s == [46,46]) && (bys s).all inNm
theorem a0d(s:ByteArray):(bys s).length=s.size:=by simp[bys]
theorem b6k(s:ByteArray)(k:Nat)(h:k<s.size):(bys s)[k]? = some (s[k].toNat:Int):=by
 simp[bys,h];rfl
theorem a0n(s:ByteArray):∀x∈bys s,0≤x∧x<256:=by
 intro x hx
 obtain⟨c,_,rfl⟩:=List.mem_map.1 hx
 have:=c.toNat_lt
 omega
theorem a1p{s t:ByteArray}(h:bys s=bys t):s=t:=by
 have h2:s.data.toList=t.data.toList:=by
  have hi:Function.Injective (fun c:UInt8=>(c.toNat:Int)):=fun a b hab=>by
   have:(a.toNat:Int)=(b.toNat:Int):=hab
   exact UInt8.toNat_inj.1 (by omega)
  exact(List.map_inj_right (fun a b hab=>hi hab)).1 h
 cases s;cases t
 simp only[ByteArray.mk.injEq]
 exact Array.toList_inj.1 h2
theorem b1h(s:ByteArray)(l:List UInt8):s.toList=l↔bys s=l.map fun c=>(c.toNat:Int):=by
 have hi:Function.Injective (fun c:UInt8=>(c.toNat:Int)):=fun a b hab=>by
  have:(a.toNat:Int)=(b.toNat:Int):=hab
  exact UInt8.toNat_inj.1 (by omega)
 rw[ByteArray.toList_eq]
 exact(List.map_inj_right (fun a b hab=>hi hab)).symm
theorem dot1(s:ByteArray):s.toList=[46]↔bys s=[46]:=b1h s [46]
theorem dot2(s:ByteArray):s.toList=[46,46]↔bys s=[46,46]:=b1h s [46,46]
theorem a0w{xs:List Int}(h:∀x∈xs,0≤x∧x<256):bys (strOfNums xs)=xs:=by
 rw[bys,strOfNums_data,List.map_map]
 conv=>rhs;rw[← List.map_id xs]
 apply List.map_congr_left
 intro x hx
 have:=h x hx
 simp
 omega
theorem a1h(s:ByteArray):strOfNums (bys s)=s:=a1p (a0w (a0n s))
def nmUpto(s:ByteArray)(k:Nat):Bool:=((bys s).take k).all inNm
theorem b1v(s:ByteArray)(k:Nat)(h:k<s.size):nmUpto s (k+1)=(nmUpto s k && inNm (s[k].toNat:Int)):=by
 have e:(bys s).take (k+1)=(bys s).take k++[(s[k].toNat:Int)]:=by
  rw[List.take_add_one,b6k s k h];rfl
 rw[nmUpto,e,List.all_append]
 simp[nmUpto]
theorem b4u(s:ByteArray):nmUpto s s.size=(bys s).all inNm:=by
 rw[nmUpto,List.take_of_length_le (by rw[a0d];exact Nat.le_refl _)]
theorem a9v{s:ByteArray}{k:Nat}(h:nmUpto s k=false):(bys s).all inNm=false:=by
 rw[← List.take_append_drop k (bys s),List.all_append]
 rw[nmUpto] at h
 rw[h];rfl
theorem b1x{s:ByteArray}(h:s.size<1∨8<s.size∨s.toList=[46]∨s.toList=[46,46]∨(bys s).all inNm=false):nameB s=false:=by
 rw[dot1,dot2] at h
 unfold nameB
 rcases h with h|h|h|h|h
 ·simp[show ¬1≤s.size by omega]
 ·simp[show ¬s.size≤8 by omega]
 ·simp[h]
 ·simp[h]
 ·simp[h]
theorem b4z{s:ByteArray}(h1:1≤s.size)(h2:s.size≤8)(h3:s.toList≠[46])(h4:s.toList≠[46,46])(h5:nmUpto s s.size=true):nameB s=true:=by
 rw[ne_eq,dot1] at h3
 rw[ne_eq,dot2] at h4
 rw[b4u] at h5
 unfold nameB
 simp[h1,h2,h3,h4,h5]
theorem b7u{s:ByteArray}(h:nameB s=true):1≤s.size∧s.size≤8:=by
 unfold nameB at h
 simp only[Bool.and_eq_true,decide_eq_true_eq] at h
 exact⟨h.1.1.1.1,h.1.1.1.2⟩
end ly
namespace pa
set_option maxRecDepth 100000
open Go.RowKit
open ly
def isNm(l:List Int):Bool:=decide (1≤l.length) && decide (l.length≤8) && !(l == [46]) && !(l == [46,46]) && l.all inNm
theorem a8x(s:ByteArray):nameB s=isNm (bys s):=by rw[nameB,isNm,a0d]
theorem a8e{l:List Int}(h:isNm l=true):1≤l.length∧l.length≤8:=by
 unfold isNm at h
 simp only[Bool.and_eq_true,decide_eq_true_eq] at h
 exact⟨h.1.1.1.1,h.1.1.1.2⟩
def seg(l:List Int):List Int:=l.takeWhile fun x=>x != 47
theorem b2t(l:List Int):(seg l).length≤l.length:=(List.takeWhile_prefix _).length_le
def parse(l:List Int):Option (List (List Int)) :=
 match l with
 | []=>some []
 | c::t=>if c=47∧isNm (seg t)=true then (parse (t.drop (seg t).length)).map (seg t :: ·) else none
termination_by l.length
decreasing_by simp;omega
theorem parse_nil:parse []=some []:=by rw[parse]
theorem a3h(c:Int)(t:List Int):parse (c::t)=if c=47∧isNm (seg t)=true then (parse (t.drop (seg t).length)).map (seg t :: ·) else none:=by rw[parse]
theorem b6n{c:Int}(t:List Int)(h:c≠47):parse (c::t)=none:=by rw[a3h,if_neg (fun hh=>h hh.1)]
theorem a1u{c:Int}{t:List Int}(h:isNm (seg t)=false):parse (c::t)=none:=by rw[a3h,if_neg (fun hh=>by rw[h] at hh;exact absurd hh.2 (by decide))]
theorem a3g{t:List Int}(h:isNm (seg t)=true):parse (47::t)=(parse (t.drop (seg t).length)).map (seg t :: ·):=by rw[a3h,if_pos ⟨rfl,h⟩]
def joinL(ns:List (List Int)):List Int:=(ns.map fun n=>47::n).flatten
theorem a3d(n:List Int)(ns:List (List Int)):joinL (n::ns)=47::(n++joinL ns):=by simp[joinL]
theorem a7b:∀(k:Nat) (l:List Int) (ns:List (List Int)),l.length≤k→parse l=some ns→joinL ns=l∧∀n∈ns,isNm n=true
 | k,[],ns,_,h=>by
  rw[parse_nil] at h
  cases h
  exact⟨rfl,by simp⟩
 | 0,c::t,ns,hk,_=>by simp at hk
 | k+1,c::t,ns,hk,h=>by
  rw[a3h] at h
  split at h
  ·rename_i hc
   obtain⟨rfl,hn⟩:=hc
   cases hp:parse (t.drop (seg t).length) with
   | none=>rw[hp] at h;cases h
   | some ms =>
    rw[hp] at h
    cases h
    obtain⟨i1,i2⟩:=a7b k (t.drop (seg t).length) ms (by simp at hk ⊢;omega) hp
    refine⟨?_,fun n hn' => ?_⟩
    ·rw[a3d,i1]
     congr 1
     have:seg t++t.drop (seg t).length=t:=by
      have h1:seg t=t.take (seg t).length:=by
       unfold seg
       exact(List.prefix_iff_eq_take.1 (List.takeWhile_prefix _))
      conv=>lhs;lhs;rw[h1]
      exact List.take_append_drop _ _
     exact this
    ·rcases List.mem_cons.1 hn' with rfl|h2
     ·exact hn
     ·exact i2 n h2
  ·cases h
def splitL(l:List Int):Option (List (List Int)) :=
 if l=[47] then some [] else match parse l with
  | some ns=>if 1≤ns.length∧ns.length≤4 then some ns else none
  | none=>none
def nms(l:List Int):List (List Int):=(splitL l).getD []
def errS(l:List Int):Int:=if (splitL l).isSome then 0 else 9
theorem b1i:splitL [47]=some []:=by rw[splitL,if_pos rfl]
theorem a3l{l:List Int}(h:l≠[47])(hp:parse l=none):splitL l=none:=by rw[splitL,if_neg h,hp]
theorem a3n{l:List Int}{ns:List (List Int)}(h:l≠[47])(hp:parse l=some ns):splitL l=if 1≤ns.length∧ns.length≤4 then some ns else none:=by rw[splitL,if_neg h,hp]
def joinP(ns:List (List Int)):List Int:=if ns=[] then [47] else joinL ns
theorem a4s{l:List Int}{ns:List (List Int)}(h:splitL l=some ns):joinP ns=l∧(∀n∈ns,isNm n=true)∧ns.length≤4∧(ns=[]→l=[47]):=by
 unfold splitL at h
 split at h
 ·rename_i h0
  cases h
  exact⟨by rw[joinP,if_pos rfl,h0],by simp,by simp,fun _=>h0⟩
 ·rename_i h0
  cases hp:parse l with
  | none=>rw[hp] at h;cases h
  | some ms =>
   rw[hp] at h
   simp only at h
   split at h
   ·rename_i hl
    cases h
    obtain⟨i1,i2⟩:=a7b l.length l ns (Nat.le_refl _) hp
    have hne:ns≠[]:=by rintro rfl;simp at hl
    exact⟨by rw[joinP,if_neg hne,i1],i2,hl.2,fun h=>absurd h hne⟩
   ·cases h
end pa
namespace ly
set_option maxRecDepth 100000
open Go.ChangeShapes Go.WideShapes Go.ChangeAt Go.RowKit
open rows
open sec
theorem a7i(c:UInt8)(w:World) :
  Calls Tryz.prog 147 #[.int .u8 (c.toNat:Int)] w fun e w'=>e = .returned (.bool (inNm (c.toNat:Int)))∧w=w':=by
 go_enter Tryz.func147,Tryz.ntmps147
 go_wp2
 all_goals go_ret
 all_goals
  refine⟨a0e ?_,rfl⟩
  unfold inNm
  rw[Bool.eq_iff_iff]
  simp
  try omega
theorem name_any(s:ByteArray)(w:World)(hm:s.size≤maxLen) :
  Calls Tryz.prog 106 #[.string s] w fun e w'=>e = .returned (.bool (nameB s))∧w=w':=by
 unfold maxLen at hm
 by_cases ha:s.size<1∨8<s.size∨s.toList=[46]∨s.toList=[46,46]
 ·have HN:=ι (b1x (s:=s) (by rcases ha with h|h|h|h<;>simp[h]))
  go_enter Tryz.func106,Tryz.ntmps106
  go_wp2
  all_goals first|(go_ret;exact⟨a0e HN.out.symm,rfl⟩)|skip
  all_goals (exfalso;rcases ha with h|h|h|h<;>first|omega|simp_all)
 ·have h1:1≤s.size:=by omega
  have h2:s.size≤8:=by omega
  have h3:¬s.toList=[46]:=fun h=>ha (by simp[h])
  have h4:¬s.toList=[46,46]:=fun h=>ha (by simp[h])
  have HY:=ι (b4z h1 h2 h3 h4)
  have g3:(s.toList == [46])=false:=by simpa using h3
  have g4:(s.toList == [46,46])=false:=by simpa using h4
  have g1:(1:Int)≤s.size:=by omega
  have g2:(s.size:Int)≤8:=by omega
  have hne:¬s=ByteArray.empty:=by rintro rfl;simp at h1
  clear ha h3 h4
  go_enter Tryz.func106,Tryz.ntmps106
  go_wp2
  go_loop [3,22] (fun x i=>∃k:Nat,k≤s.size∧i = .int .i64 (k:Int)∧nmUpto s k=true) (fun _ i=>s.size-(intOf i).toNat)
  case atStart=>exact⟨0,by omega,rfl,rfl⟩
  case round =>
   obtain⟨k,hk,rfl,hu⟩:=hrel
   have HU:=ι hu
   clear hu
   by_cases hlt:k<s.size
   ·have hlti:(k:Int)<s.size:=by omega
    have HS:=ι (b1v s k hlt)
    cases hc:inNm (s[k].toNat:Int) with
    | true =>
     have HC:=ι hc
     clear hc
     go_wp2_with (go_at_call 147;refine(a7i s[k] _).mono ?_;rw[HC.out];rintro e w1 ⟨rfl,rfl⟩)
     go_round
     case rel=>exact⟨k+1,by omega,by go_num,by rw[HS.out,HU.out,HC.out];rfl⟩
     case measure=>simp[intOf];omega
    | false =>
     have HC:=ι hc
     clear hc
     have HN:=ι (b1x (s:=s) (by right;right;right;right;exact a9v (k:=k+1) (by rw[HS.out,HC.out];simp)))
     go_wp2_with (go_at_call 147;refine(a7i s[k] _).mono ?_;rw[HC.out];rintro e w1 ⟨rfl,rfl⟩)
     go_ret
     exact⟨a0e HN.out.symm,rfl⟩
   ·obtain rfl:k=s.size:=by omega
    go_wp2
    go_ret
    exact⟨a0e (HY.out HU.out).symm,rfl⟩
theorem name_of(s:ByteArray)(b:Bool)(h:nameB s=b)(hm:s.size≤maxLen)(w:World) :
  Calls Tryz.prog 106 #[.string s] w fun e w'=>e = .returned (.bool b)∧w=w':=by subst h;exact name_any s w hm
end ly
namespace pa
set_option maxRecDepth 100000
open Go.ChangeShapes Go.WideShapes Go.ChangeAt Go.RowKit
open rows
open ly
theorem b6m:Elem 113 9 1 16 (.string ByteArray.empty):=⟨Tryz.underlying113,by kernel_rfl,by decide,by decide,by decide⟩
def strC(ns:List (List Int)):List Value:=ns.map fun n => .string (strOfNums n)
theorem b8p(ns:List (List Int)):∀u∈strC ns,u.oneCell'=true:=by
 intro u hu
 obtain⟨n,_,rfl⟩:=List.mem_map.1 hu
 rfl
theorem slash1(s:ByteArray):s.toList=[47]↔bys s=[47]:=b1h s [47]
theorem a6a(s:ByteArray)(a b:Nat)(hb:b≤s.size):bys (s.extract a b)=((bys s).drop a).take (b-a):=by
 unfold bys
 rw[← List.map_drop,← List.map_take]
 congr 1
 rw[ByteArray.data_extract,Array.toList_extract,List.extract]
theorem a4z(ns:List (List Int)):(strC ns).length=ns.length:=by simp[strC]
theorem a4e(s:ByteArray)(k:Nat)(h:k<s.size):(bys s).getD k 0=(s[k].toNat:Int):=by
 rw[List.getD,b6k s k h];rfl
theorem drop_cons{l:List Int}{j:Nat}(h:j<l.length):l.drop j=l.getD j 0::l.drop (j+1):=by
 rw[List.drop_eq_getElem_cons h]
 congr 1
 simp[List.getD,h]
end pa
namespace pa
set_option maxRecDepth 100000
open Go.ChangeShapes Go.WideShapes Go.ChangeAt Go.RowKit
open rows
open ly
theorem b7v(a b:List Int):strOfNums a++strOfNums b=strOfNums (a++b):=by
 have h:(strOfNums a++strOfNums b).data=(strOfNums (a++b)).data:=by
  rw[ByteArray.data_append]
  simp[strOfNums]
 generalize strOfNums a++strOfNums b=x at h
 generalize strOfNums (a++b)=y at h
 cases x;cases y
 simpa using h
theorem c0u{w:World}{p:Option Addr}{n c:Nat}{ns:List (List Int)}(h:Rd w 1 (.slice p n c) n (strC ns)){i:Nat}(hi:i<n) :
  ∃b off,p=some ⟨b,off,none⟩∧n≤c∧c≤maxLen∧b<w.heap.size∧ns.length=n∧∀i,i<n→w.cell? ⟨b,off+i,none⟩=some (.string (strOfNums (ns.getD i []))):=by
 rcases h with⟨p',cap',h1,rfl,_⟩|⟨b,off,cap',h1,h2,h3,h4,h5,h6,h7⟩
 ·omega
 ·cases h1
  have hl:ns.length=n:=by simpa [strC] using h6
  refine⟨b,off,rfl,h3,h4,h5,hl,fun i hi=>h7 i _ ?_⟩
  simp[strC,List.getD,show i<ns.length by omega]
theorem b7z{ns:List (List Int)}(m:Nat)(h:∀x∈ns,x.length≤m):(joinL ns).length≤ns.length * (m+1):=by
 induction ns with
 | nil=>simp[joinL]
 | cons n ns ih =>
  have h1:=h n (List.mem_cons_self ..)
  have h2:=ih fun x hx=>h x (List.mem_cons_of_mem _ hx)
  rw[a3d]
  simp only[List.length_cons,List.length_append,Nat.succ_mul]
  omega
def JoinIs(f:Nat):Prop:=∀(p:Option Addr) (n c:Nat) (ns:List (List Int)) (w:World),Rd w 1 (.slice p n c) n (strC ns)→n≤1000→(∀x∈ns,x.length≤100000) →
 Calls Tryz.prog f #[.slice p n c] w (Rt w (.string (strOfNums (joinP ns))))
end pa
namespace pa
set_option maxRecDepth 100000
open Go.ChangeShapes Go.WideShapes Go.ChangeAt Go.RowKit
open rows
open ly
def parL(l:List Int):List Int:=match splitL l with|some (n::ns)=>joinP (n::ns).dropLast|_=>[]
def lastL(l:List Int):List Int:=match splitL l with|some (n::ns)=>(n::ns).getLastD []|_=>[]
def errP(l:List Int):Int:=match splitL l with|some (n::ns)=>0|some []=>1|none=>9
theorem rd_pre{w:World}{a:Addr}{n c:Nat}{ns:List (List Int)}(h:Rd w 1 (.slice (some a) n c) n (strC ns))(k:Nat)(hk:k≤n):Rd w 1 (.slice (some a) k c) k (strC (ns.take k)):=by
 by_cases h0:k=0
 ·subst h0
  exact Or.inl ⟨_,_,rfl,rfl,rfl,fun h=>by cases h⟩
 ·rcases h with⟨p',cap',h1,rfl,_⟩|⟨b,off,cap',h1,h2,h3,h4,h5,h6,h7⟩
  ·omega
  ·cases h1
   have hl:ns.length=n:=by simpa [strC] using h6
   refine Or.inr ⟨b,off,c,rfl,by omega,by omega,h4,h5,by rw[a4z,List.length_take];omega,fun i u hi=>h7 i u ?_⟩
   simp only[strC,List.getElem?_map,List.getElem?_take] at hi ⊢
   by_cases hik:i<k
   ·simpa [hik] using hi
   ·simp[hik] at hi
end pa
namespace vw
set_option maxRecDepth 100000
def plainB(c:Int):Bool:=decide (32≤c) && decide (c≤126) && !(c == 34) && !(c == 92)
def hexC(k:Int):Int:=if k<10 then 48+k else 87+k
def hexV(c:Int):Option Int:=if 48≤c∧c≤57 then some (c-48) else if 97≤c∧c≤102 then some (c-87) else none
def signL(c:Int):List Int:=if plainB c then [c] else [92,hexC (c / 16),hexC (c % 16)]
def quoteL(l:List Int):List Int:=34::((l.map signL).flatten++[34])
theorem a9c(c:Int):plainB c=true↔32≤c∧c≤126∧c≠34∧c≠92:=by
 simp[plainB,and_assoc]
theorem b3a{k:Int}(h0:0≤k)(h1:k<16):hexV (hexC k)=some k:=by
 unfold hexV hexC
 by_cases h:k<10
 ·rw[if_pos h,if_pos (by omega)];congr 1;omega
 ·rw[if_neg h,if_neg (by omega),if_pos (by omega)];congr 1;omega
theorem a5a{c k:Int}(h:hexV c=some k):hexC k=c∧0≤k∧k<16:=by
 unfold hexV at h
 split at h
 ·cases h;rw[hexC,if_pos (by omega)];omega
 ·split at h
  ·cases h;rw[hexC,if_neg (by omega)];omega
  ·cases h
def escL:List Int→Option (Int×Nat)
 | a::b::_=>match hexV a,hexV b with
  | some x,some y=>if plainB (16 * x+y) then none else some (16 * x+y,3)
  | _,_=>none
 | _=>none
def stepL:List Int→Option (Int×Nat)
 | []=>none
 | c::t=>if plainB c then some (c,1) else if c=92 then escL t else none
theorem a4a{l:List Int}{c:Int}{n:Nat}(hb:∀x∈l,0≤x∧x<256)(h:stepL l=some (c,n)):(0≤c∧c<256)∧1≤n∧n≤l.length∧l.take n=signL c∧(signL c).length=n:=by
 cases l with
 | nil=>cases h
 | cons d t =>
  rw[stepL] at h
  split at h
  ·rename_i hp
   cases h
   exact⟨hb _ List.mem_cons_self,by omega,by simp,by simp[signL,hp],by simp[signL,hp]⟩
  ·split at h
   ·rename_i hp hd
    match t,h with
    | [],h=>cases h
    | [_],h=>cases h
    | a::b::t',h =>
     simp only[escL] at h
     cases hx:hexV a with
     | none=>rw[hx] at h;cases h
     | some x =>
      cases hy:hexV b with
      | none=>rw[hx,hy] at h;cases h
      | some y =>
       rw[hx,hy] at h
       simp only at h
       split at h
       ·cases h
       ·rename_i hq
        cases h
        obtain⟨ex,x0,x1⟩:=a5a hx
        obtain⟨ey,y0,y1⟩:=a5a hy
        have e1:(16 * x+y) / 16=x:=by omega
        have e2:(16 * x+y) % 16=y:=by omega
        refine⟨by omega,by omega,by simp,?_,?_⟩
        ·rw[signL,if_neg hq,e1,e2,ex,ey,hd];rfl
        ·rw[signL,if_neg hq];rfl
   ·cases h
theorem b4y{c:Int}(h:0≤c∧c<256)(r:List Int):stepL (signL c++r)=some (c,(signL c).length):=by
 unfold signL
 split
 ·rename_i hp
  rw[List.singleton_append,stepL,if_pos hp];rfl
 ·rename_i hp
  have hn:plainB 92=false:=by decide
  show stepL (92::hexC (c / 16)::hexC (c % 16)::r)=_
  rw[stepL,if_neg (by rw[hn];decide),if_pos rfl]
  simp only[escL,b3a (k:=c / 16) (by omega) (by omega),b3a (k:=c % 16) (by omega) (by omega)]
  have e:16 * (c / 16)+c % 16=c:=by omega
  rw[e,if_neg hp];rfl
theorem a8q(c:Int):1≤(signL c).length∧(signL c).length≤3:=by
 unfold signL;split<;>simp
theorem b3y{c:Int}(h:0≤c∧c<256):∀x∈signL c,32≤x∧x≤126∧x≠34:=by
 intro x hx
 unfold signL at hx
 split at hx
 ·rename_i hp
  rw[List.mem_singleton.1 hx]
  have:=(a9c c).1 hp;omega
 ·have d:∀k:Int,0≤k→k<16→48≤hexC k∧hexC k≤102:=fun k h0 h1=>by unfold hexC;split<;>omega
  have d1:=d (c / 16) (by omega) (by omega)
  have d2:=d (c % 16) (by omega) (by omega)
  simp only[List.mem_cons,List.not_mem_nil,or_false] at hx
  rcases hx with rfl|rfl|rfl<;>omega
def unqF:Nat→List Int→Option (List Int)
 | 0,l=>if l=[] then some [] else none
 | f+1,l=>if l=[] then some [] else match stepL l with
  | none=>none
  | some (c,n)=>(unqF f (l.drop n)).map (c :: ·)
def unqL(l:List Int):Option (List Int):=unqF l.length l
theorem a9o:∀(f:Nat) (l:List Int),(∀x∈l,0≤x∧x<256)→l.length≤f→unqF f ((l.map signL).flatten)=some l
 | 0,l,_,hl=>by
  obtain rfl:l=[]:=List.eq_nil_of_length_eq_zero (by omega)
  rfl
 | f+1,[],_,_=>rfl
 | f+1,c::t,hb,hl=>by
  have hc:=hb c List.mem_cons_self
  have hs:=b4y hc ((t.map signL).flatten)
  have hp:=a8q c
  rw[unqF,List.map_cons,List.flatten_cons,if_neg (by intro h;have:=congrArg List.length h;rw[List.length_append,List.length_nil] at this;omega),hs]
  simp only
  rw[List.drop_append_of_le_length (Nat.le_refl _),List.drop_length,List.nil_append,a9o f t (fun x hx=>hb x (List.mem_cons_of_mem _ hx)) (by simpa using hl)]
  rfl
theorem b0c:∀(f:Nat) (r l:List Int),(∀x∈r,0≤x∧x<256)→unqF f r=some l→r=(l.map signL).flatten∧∀x∈l,0≤x∧x<256
 | 0,r,l,_,h=>by
  rw[unqF] at h
  split at h
  ·rename_i hr;cases h;exact⟨hr,fun x hx=>nomatch hx⟩
  ·cases h
 | f+1,r,l,hb,h=>by
  rw[unqF] at h
  split at h
  ·rename_i hr;cases h;exact⟨hr,fun x hx=>nomatch hx⟩
  ·cases hs:stepL r with
   | none=>rw[hs] at h;cases h
   | some q =>
    obtain⟨c,n⟩:=q
    rw[hs] at h
    simp only at h
    obtain⟨hc,h1,hn,ht,hl⟩:=a4a hb hs
    cases hu:unqF f (r.drop n) with
    | none=>rw[hu] at h;cases h
    | some m =>
     rw[hu] at h
     cases h
     obtain⟨e,hm⟩:=b0c f (r.drop n) m (fun x hx=>hb x (List.mem_of_mem_drop hx)) hu
     refine⟨?_,fun x hx => ?_⟩
     ·rw[List.map_cons,List.flatten_cons,← e,← ht,List.take_append_drop]
     ·rcases List.mem_cons.1 hx with rfl|hx
      ·exact hc
      ·exact hm x hx
theorem a9s:∀(f:Nat) (r:List Int),(∀x∈r,0≤x∧x<256)→r.length≤f→∀g,unqF (f+g) r=unqF f r
 | 0,r,_,hr,g=>by
  obtain rfl:r=[]:=List.eq_nil_of_length_eq_zero (by omega)
  cases g<;>rfl
 | f+1,r,hb,hr,g=>by
  rw[show f+1+g=(f+g)+1 by omega,unqF,unqF]
  split
  ·rfl
  ·cases hs:stepL r with
   | none=>rfl
   | some q =>
    obtain⟨c,n⟩:=q
    simp only
    obtain⟨hc,h1,hn,ht,hl⟩:=a4a hb hs
    rw[a9s f (r.drop n) (fun x hx=>hb x (List.mem_of_mem_drop hx)) (by rw[List.length_drop];omega) g]
theorem unq_nil:unqL []=some []:=rfl
theorem c0a{r:List Int}(hb:∀x∈r,0≤x∧x<256){c:Int}{n:Nat}(h:stepL r=some (c,n)):unqL r=(unqL (r.drop n)).map (c :: ·):=by
 obtain⟨hc,h1,hn,ht,hl⟩:=a4a hb h
 have hr:r≠[]:=by intro e;rw[e] at hn;simp at hn;omega
 obtain⟨k,hk⟩:∃k,r.length=k+1:=⟨r.length-1,by omega⟩
 have hd:(r.drop n).length=r.length-n:=List.length_drop
 rw[unqL,hk,unqF,if_neg hr,h]
 simp only
 rw[unqL,show k=(r.drop n).length+(n-1) by omega,a9s _ _ (fun x hx=>hb x (List.mem_of_mem_drop hx)) (Nat.le_refl _)]
theorem b9u{r:List Int}(hr:r≠[])(h:stepL r=none):unqL r=none:=by
 obtain⟨k,hk⟩:∃k,r.length=k+1:=⟨r.length-1,by have:=List.length_pos_iff.2 hr;omega⟩
 rw[unqL,hk,unqF,if_neg hr,h]
theorem b9m(l:List Int)(hb:∀x∈l,0≤x∧x<256):unqL ((l.map signL).flatten)=some l:=by
 have hl:l.length≤((l.map signL).flatten).length:=by
  clear hb
  induction l with
  | nil=>simp
  | cons c t ih=>rw[List.map_cons,List.flatten_cons,List.length_append,List.length_cons];have:=a8q c;omega
 exact a9o _ l hb hl
theorem b9e{r l:List Int}(hb:∀x∈r,0≤x∧x<256)(h:unqL r=some l):r=(l.map signL).flatten∧∀x∈l,0≤x∧x<256:=b0c _ _ _ hb h
def unquoteL(s:List Int):Option (List Int):=if s.length<2∨s.getD 0 0≠34∨s.getD (s.length-1) 0≠34 then none else unqL ((s.drop 1).take (s.length-2))
theorem a3w(l:List Int):(quoteL l).length=((l.map signL).flatten).length+2:=by simp[quoteL]
theorem a4g(l:List Int):l.length≤((l.map signL).flatten).length∧((l.map signL).flatten).length≤3 * l.length:=by
 induction l with
 | nil=>simp
 | cons c t ih=>rw[List.map_cons,List.flatten_cons,List.length_append,List.length_cons];have:=a8q c;omega
theorem a3u(l:List Int)(hb:∀x∈l,0≤x∧x<256):unquoteL (quoteL l)=some l:=by
 have hq:=a3w l
 rw[unquoteL,if_neg]
 ·rw[show (quoteL l).drop 1=(l.map signL).flatten++[34] from rfl,hq,show ((l.map signL).flatten).length+2-2=((l.map signL).flatten).length by omega,List.take_left']
  ·exact b9m l hb
  ·rfl
 ·rintro(h|h|h)
  ·omega
  ·exact h rfl
  ·apply h
   rw[hq,show ((l.map signL).flatten).length+2-1=((l.map signL).flatten).length+1 by omega,quoteL,List.getD_cons_succ,List.getD,List.getElem?_append_right (Nat.le_refl _),Nat.sub_self]
   rfl
theorem a2q{s l:List Int}(hb:∀x∈s,0≤x∧x<256)(h:unquoteL s=some l):quoteL l=s∧∀x∈l,0≤x∧x<256:=by
 unfold unquoteL at h
 split at h
 ·cases h
 ·rename_i hn
  rw[not_or,not_or,Nat.not_lt,Decidable.not_not,Decidable.not_not] at hn
  obtain⟨h2,h0,h1⟩:=hn
  obtain⟨e,hl⟩:=b9e (fun x hx=>hb x (List.mem_of_mem_drop (List.mem_of_mem_take hx))) h
  refine⟨?_,hl⟩
  rw[quoteL,← e]
  match s,h2,h0,h1 with
  | a::t,h2,h0,h1 =>
   rw[List.getD_cons_zero] at h0
   rw[h0]
   congr 1
   have ht:1≤t.length:=by simpa using h2
   rw[List.length_cons,show t.length+1-1=(t.length-1)+1 by omega,List.getD_cons_succ] at h1
   rw[List.drop_one,List.tail_cons,List.length_cons,show t.length+1-2=t.length-1 by omega]
   have hlt:t.length-1<t.length:=by omega
   have e1:t.drop (t.length-1)=[34]:=by
    rw[List.drop_eq_getElem_cons hlt,List.drop_eq_nil_of_le (by omega)]
    rw[List.getD,List.getElem?_eq_getElem hlt] at h1
    rw[show t[t.length-1]=34 from h1]
   conv=>rhs;rw[← List.take_append_drop (t.length-1) t,e1]
end vw
namespace ly
set_option maxRecDepth 100000
open Go.RowKit
open rows
open sec
open dsk (wf64)
structure Ino where
 kind:Int
 size:Int
 b:List Int
 deriving DecidableEq
def Ino.c(x:Ino):List Value := .int .i64 x.kind :: .int .i64 x.size::i64s x.b
structure Ino.ok (x:Ino):Prop where
 four:x.b.length=4
 kind:wf64 x.kind
 size:wf64 x.size
 b:∀z∈x.b,wf64 z
def ino0:Ino:=⟨0,0,[0,0,0,0]⟩
theorem a2x{z:Int}(h:0≤z∧z<256):wf64 z:=WalkArith.wf_i64 (by omega)
def need(z:Nat):Nat:=(z+31) / 32
def blkOk(b:List Int)(m i:Nat):Bool:=if i<m then decide (1≤b.getD i 0) && decide (b.getD i 0≤24) && !(b.take i).contains (b.getD i 0) else b.getD i 0 == 0
def blks(b:List Int)(m j:Nat):Bool:=(List.range j).all (blkOk b m)
theorem a6i(b:List Int)(m j:Nat):blks b m (j+1)=(blks b m j && blkOk b m j):=by
 rw[blks,List.range_succ,List.all_append];simp[blks]
theorem a7g{b:List Int}{m j:Nat}(k:Nat)(h:blks b m j=false)(hk:j≤k):blks b m k=false:=by
 induction k with
 | zero =>
   obtain rfl:j=0:=by omega
   exact h
 | succ k ih =>
  by_cases e:j=k+1
  ·subst e;exact h
  ·rw[a6i,ih (by omega)];rfl
theorem b0w{b:List Int}{m j:Nat}(h:blks b m j=true)(i:Nat)(hi:i<j):blkOk b m i=true:=List.all_eq_true.1 h i (List.mem_range.2 hi)
def rightI(x:Ino):Bool:=if x.kind=0∨x.kind=2 then x.size == 0 && x.b == [0,0,0,0] else x.kind == 1 && decide (0≤x.size) && decide (x.size≤128) && blks x.b (need x.size.toNat) 4
theorem a2z{x:Ino}(h:x.kind=0∨x.kind=2):rightI x=(x.size == 0 && x.b == [0,0,0,0]):=by rw[rightI,if_pos h]
theorem a2u{x:Ino}(h:x.kind=1):rightI x=(decide (0≤x.size) && decide (x.size≤128) && blks x.b (need x.size.toNat) 4):=by
 rw[rightI,if_neg (by omega),h];rfl
theorem a3k{x:Ino}(h0:x.kind≠0)(h1:x.kind≠1)(h2:x.kind≠2):rightI x=false:=by
 rw[rightI,if_neg (by omega)]
 simp[h1]
theorem b1e{z:Nat}(h:z≤128):need z≤4:=by unfold need;omega
theorem b8r(b:List Int)(k:Nat)(v:Int)(hk:k<b.length):(b.take (k+1)).contains v=((b.take k).contains v || v == b.getD k 0):=by
 have e:b.getD k 0=b[k]:=by simp[List.getD,hk]
 rw[List.take_succ_eq_append_getElem hk,List.contains_append,e]
 congr 1
 simp only[List.contains_cons,List.contains_nil,Bool.or_false]
theorem b8t{b:List Int}{k:Nat}{v:Int}(m:Nat)(h:(b.take k).contains v=true)(hk:k≤m):(b.take m).contains v=true:=by
 rw[List.contains_iff_mem] at *
 rw[List.mem_take_iff_getElem] at *
 obtain⟨i,hi,he⟩:=h
 exact⟨i,by omega,he⟩
theorem a7o{b:List Int}{m i:Nat}(h:¬i<m):blkOk b m i=(b.getD i 0 == 0):=by rw[blkOk,if_neg h]
theorem a4l{b:List Int}{m i:Nat}(h:i<m):blkOk b m i=(decide (1≤b.getD i 0) && decide (b.getD i 0≤24) && !(b.take i).contains (b.getD i 0)):=by rw[blkOk,if_pos h]
structure InoFine (x:Ino):Prop where
 k0:0≤x.kind
 k1:x.kind≤2
 s0:0≤x.size
 s1:x.size≤128
 b:∀z∈x.b,0≤z∧z≤24
theorem a6u{x:Ino}(hl:x.b.length=4)(h:rightI x=true):InoFine x:=by
 by_cases hk:x.kind=0∨x.kind=2
 ·rw[a2z hk,Bool.and_eq_true,beq_iff_eq,beq_iff_eq] at h
  refine⟨by omega,by omega,by omega,by omega,fun z hz => ?_⟩
  rw[h.2] at hz
  simp at hz;omega
 ·by_cases h1:x.kind=1
  ·rw[a2u h1,Bool.and_eq_true,Bool.and_eq_true,decide_eq_true_eq,decide_eq_true_eq] at h
   refine⟨by omega,by omega,h.1.1,h.1.2,fun z hz => ?_⟩
   obtain⟨i,hi,rfl⟩:=List.mem_iff_getElem.1 hz
   have hb:=b0w h.2 i (by omega)
   have e:x.b.getD i 0=x.b[i]:=by simp[List.getD,hi]
   rw[blkOk,e] at hb
   split at hb
   ·simp only[Bool.and_eq_true,decide_eq_true_eq] at hb
    omega
   ·rw[beq_iff_eq] at hb;omega
  ·rw[a3k (by omega) h1 (by omega)] at h
   cases h
def inoSec(x:Ino):List Int:=x.kind::x.size::(x.b++List.replicate 26 0)
def inoPart(x:Ino)(j:Nat):List Int:=x.kind::x.size::(x.b.take j++List.replicate (30-j) 0)
theorem a3o{x:Ino}(hl:x.b.length=4)(j:Nat)(hj:j≤4):(inoPart x j).length=32:=by
 simp[inoPart];omega
theorem b1r{x:Ino}(hl:x.b.length=4):inoPart x 4=inoSec x:=by
 rw[inoPart,inoSec,List.take_of_length_le (by omega)]
theorem b1p{x:Ino}(hl:x.b.length=4)(j:Nat)(hj:j<4):(inoPart x j).set (2+j) (x.b.getD j 0)=inoPart x (j+1):=by
 have e:x.b.take (j+1)=x.b.take j++[x.b.getD j 0]:=by
  rw[List.take_succ_eq_append_getElem (by omega)]
  simp[List.getD,show j<x.b.length by omega]
 rw[inoPart,inoPart,e,show 2+j=j+1+1 by omega,List.set_cons_succ,List.set_cons_succ,List.set_append_right _ _ (by simp;omega)]
 rw[show 30-j=(30-(j+1))+1 by omega,List.replicate_succ]
 simp[show j-min j x.b.length=0 by omega]
theorem b4d{x:Ino}(hl:x.b.length=4)(h:rightI x=true):Sec (inoSec x):=by
 have hf:=a6u hl h
 refine⟨by simp[inoSec,hl],fun z hz => ?_⟩
 simp only[inoSec,List.mem_cons,List.mem_append] at hz
 have:=hf.k0;have:=hf.k1;have:=hf.s0;have:=hf.s1
 rcases hz with rfl|rfl|hz|hz
 ·omega
 ·omega
 ·have:=hf.b z hz;omega
 ·have:=List.eq_of_mem_replicate hz;omega
def inoOf(s:List Int):Ino:=⟨s.getD 0 0,s.getD 1 0,(s.drop 2).take 4⟩
def inoOfB(s:List Int):Bool:=rightI (inoOf s) && decide (inoSec (inoOf s)=s)
theorem a3c{s:List Int}(h:Sec s):(inoOf s).b.length=4:=by simp[inoOf,h.1]
theorem a0v{s:List Int}(h:Sec s)(i:Nat):0≤s.getD i 0∧s.getD i 0<256:=by
 by_cases hi:i<s.length
 ·have e:s.getD i 0=s[i]:=by simp[List.getD,hi]
  rw[e];exact h.2 _ (List.getElem_mem hi)
 ·have e:s.getD i 0=0:=by simp[List.getD,List.getElem?_eq_none (Nat.le_of_not_lt hi)]
  rw[e];omega
theorem b9s{s:List Int}(h:Sec s):(inoOf s).ok :=
 ⟨a3c h,a2x (a0v h 0),a2x (a0v h 1),fun z hz=>a2x (h.2 z (List.mem_of_mem_drop (List.mem_of_mem_take hz)))⟩
def inoUp(s:List Int)(j:Nat):Ino:=⟨s.getD 0 0,s.getD 1 0,(s.drop 2).take j++List.replicate (4-j) 0⟩
theorem b3q{s:List Int}(h:Sec s)(j:Nat)(hj:j≤4):(inoUp s j).b.length=4:=by simp[inoUp,h.1];omega
theorem b5o(s:List Int):inoUp s 4=inoOf s:=by simp[inoUp,inoOf]
theorem b5z{s:List Int}(h:Sec s)(j:Nat)(hj:j<4):({inoUp s j with b:=(inoUp s j).b.set j (s.getD (2+j) 0)}:Ino)=inoUp s (j+1):=by
 have hl:=h.1
 have e:(s.drop 2).take (j+1)=(s.drop 2).take j++[s.getD (2+j) 0]:=by
  rw[List.take_succ_eq_append_getElem (by simp;omega)]
  simp[List.getD,show 2+j<s.length by omega]
 simp only[inoUp,e,Ino.mk.injEq,true_and]
 rw[List.set_append_right _ _ (by simp;omega),show 4-j=(4-(j+1))+1 by omega,List.replicate_succ]
 simp[show j-min j (s.length-2)=0 by omega]
def inoOfV(s:List Int):Ino:=if inoOfB s then inoOf s else ino0
theorem a6d{s:List Int}(h:Sec s):(inoOfV s).b.length=4:=by
 unfold inoOfV
 split
 ·exact a3c h
 ·rfl
end ly
namespace ly
set_option maxRecDepth 100000
open Go.RowKit
open rows
open sec
open dsk (wf64)
structure Ent where
 used:Bool
 parent:Int
 name:ByteArray
 target:Int
structure Ent.ok (x:Ent):Prop where
 parent:wf64 x.parent
 target:wf64 x.target
 name:x.name.size≤maxLen
def ent0:Ent:=⟨false,0,ByteArray.empty,0⟩
def rightE(x:Ent):Bool:=if x.used then decide (0≤x.parent) && decide (x.parent<16) && decide (1≤x.target) && decide (x.target<16) && nameB x.name else x.parent == 0 && x.name.toList == [] && x.target == 0
theorem a2l{x:Ent}(h:x.used=true):rightE x=(decide (0≤x.parent) && decide (x.parent<16) && decide (1≤x.target) && decide (x.target<16) && nameB x.name):=by rw[rightE,if_pos h]
theorem a2k{x:Ent}(h:x.used=false):rightE x=(x.parent == 0 && x.name.toList == [] && x.target == 0):=by rw[rightE,if_neg (by simp[h])]
theorem a7u(s:ByteArray):s.toList=[]↔s.size=0:=by
 rw[ByteArray.toList_eq]
 constructor
 ·intro h
  have:=congrArg List.length h
  simpa using this
 ·intro h
  apply List.eq_nil_of_length_eq_zero
  simpa using h
theorem bys_nil{s:ByteArray}(h:s.size=0):bys s=[]:=List.eq_nil_of_length_eq_zero (by rw[a0d];exact h)
theorem empty_of{s:ByteArray}(h:s.size=0):s=ByteArray.empty:=a1p (by rw[bys_nil h];rfl)
def entSec(x:Ent):List Int:=(if x.used then 1 else 0)::x.parent::x.target::(x.name.size:Int)::(List.replicate 12 0++(bys x.name++List.replicate (16-x.name.size) 0))
theorem a6k{x:Ent}(h:rightE x=true):x.name.size≤8∧(x.used=true→1≤x.name.size)∧(x.used=false→x=ent0):=by
 cases hu:x.used with
 | true =>
  rw[a2l hu,Bool.and_eq_true] at h
  have:=b7u h.2
  exact⟨this.2,fun _=>this.1,fun h=>by cases h⟩
 | false =>
  rw[a2k hu] at h
  simp only[Bool.and_eq_true,beq_iff_eq] at h
  have h0:x.name.size=0:=(a7u _).1 h.1.2
  refine⟨by omega,(by intro h;cases h),fun _ => ?_⟩
  obtain⟨u,p,n,t⟩:=x
  simp only at *
  rw[hu,h.1.1,h.2,empty_of h0]
  rfl
theorem a5l{x:Ent}(h:rightE x=true):0≤x.parent∧x.parent<16∧0≤x.target∧x.target<16:=by
 cases hu:x.used with
 | true =>
  rw[a2l hu] at h
  simp only[Bool.and_eq_true,decide_eq_true_eq] at h
  omega
 | false =>
  rw[a2k hu] at h
  simp only[Bool.and_eq_true,beq_iff_eq] at h
  omega
theorem a7m{x:Ent}(h:rightE x=true):Sec (entSec x):=by
 have hn:=(a6k h).1
 have hf:=a5l h
 refine⟨by simp[entSec,a0d];omega,fun z hz => ?_⟩
 simp only[entSec,List.mem_cons,List.mem_append] at hz
 rcases hz with rfl|rfl|rfl|rfl|hz|hz|hz
 ·split<;>omega
 ·omega
 ·omega
 ·omega
 ·have:=List.eq_of_mem_replicate hz;omega
 ·exact a0n _ z hz
 ·have:=List.eq_of_mem_replicate hz;omega
def ent1(x:Ent)(u:Int):List Int:=u::x.parent::x.target::(x.name.size:Int)::List.replicate 28 0
theorem a5d(x:Ent)(u:Int):(ent1 x u).length=32:=by simp[ent1]
theorem b0u(x:Ent)(h:x.name.size≤16):splice (ent1 x (if x.used then 1 else 0)) 16 (bys x.name)=entSec x:=by
 have e1:∀u,(ent1 x u).take 16=u::x.parent::x.target::(x.name.size:Int)::List.replicate 12 0:=fun u=>rfl
 have e2:∀u,(ent1 x u).drop (16+x.name.size)=List.replicate (16-x.name.size) 0:=fun u=>by
  rw[ent1,show 16+x.name.size=(12+x.name.size)+1+1+1+1 by omega,List.drop_succ_cons,List.drop_succ_cons,List.drop_succ_cons,List.drop_succ_cons,List.drop_replicate]
  congr 1
  omega
 rw[splice,a0d,e1,e2,entSec]
 rfl
end ly
namespace ly
set_option maxRecDepth 100000
open Go.ChangeShapes Go.WideShapes Go.ChangeAt Go.RowKit
open rows
open sec
abbrev aggE(x:Ent):Value := .agg #[.bool x.used,.int .i64 x.parent,.string x.name,.int .i64 x.target]
theorem b6x:Tryz.prog.eqGuardType Tryz.prog.depth 119=false:=by kernel_rfl
theorem b1k(n:Int)(w:World) :
  Calls Tryz.prog 212 #[.int .i64 n] w fun e w'=>e = .returned (.bool (decide (0≤n) && decide (n<16)))∧w=w':=by
 go_enter Tryz.func212,Tryz.ntmps212
 go_wp2
 all_goals go_ret
 all_goals
  refine⟨a0e ?_,rfl⟩
  rw[Bool.eq_iff_iff]
  simp
  try omega
theorem a1e(n:Int)(b:Bool)(h:(decide (0≤n) && decide (n<16))=b)(w:World) :
  Calls Tryz.prog 212 #[.int .i64 n] w fun e w'=>e = .returned (.bool b)∧w=w':=by subst h;exact b1k n w
set_option maxHeartbeats 1600000 in
theorem a6v(x:Ent)(hx:x.ok)(w:World) :
  Calls Tryz.prog 181 #[aggE x] w (Rt w (.bool (rightE x))):=by
 obtain⟨u,p,n,t⟩:=x
 obtain⟨h1,h2,h3⟩:=hx
 simp only at h1 h2 h3
 have HL:=ι h3
 clear h3 h1 h2
 cases u with
 | false =>
  have hg:=b6x
  go_enter Tryz.func181,Tryz.ntmps181
  go_wp2_with fail
  all_goals go_ret
  all_goals refine⟨a0e ?_,a0b (Below.refl _ _) _⟩
  all_goals (rw[a2k rfl];simp_all)
 | true =>
  have HR:=ι (a2l (x:=⟨true,p,n,t⟩) rfl)
  simp only at HR
  cases hp:(decide (0≤p) && decide (p<16)) with
  | false =>
   have HP:=ι hp
   clear hp
   go_enter Tryz.func181,Tryz.ntmps181
   go_wp2_with (go_at_call 212;refine(a1e p _ HP.out _).mono ?_;rintro e w2 ⟨rfl,rfl⟩)
   go_ret
   exact⟨a0e (by rw[HR.out,HP.out];rfl),a0b (Below.refl _ _) _⟩
  | true =>
   have HP:=ι hp
   clear hp
   cases ht:(decide (0≤t) && decide (t<16)) with
   | false =>
    have HT:=ι ht
    have HF:Hid (rightE ⟨true,p,n,t⟩=false):=ι (by
     rw[HR.out,HP.out]
     simp only[Bool.and_eq_false_iff,decide_eq_false_iff_not] at ht
     rw[Bool.eq_false_iff]
     intro hh
     simp only[Bool.and_eq_true,decide_eq_true_eq] at hh
     omega)
    clear ht
    go_enter Tryz.func181,Tryz.ntmps181
    go_wp2_with (go_at_call 212;(first|(with_reducible refine(a1e p _ HP.out _).mono ?_)|(with_reducible refine(a1e t _ HT.out _).mono ?_));rintro e w2 ⟨rfl,rfl⟩)
    go_ret
    exact⟨a0e HF.out.symm,a0b (Below.refl _ _) _⟩
   | true =>
    have HT:=ι ht
    have HR2:Hid (rightE ⟨true,p,n,t⟩=(!(t == 0) && nameB n)):=ι (by
     rw[HR.out,HP.out]
     simp only[Bool.and_eq_true,decide_eq_true_eq] at ht
     rw[Bool.eq_iff_iff]
     simp
     intro _
     omega)
    clear ht HR
    cases h0:(t == 0) with
    | true =>
     have HF:Hid (rightE ⟨true,p,n,t⟩=false):=ι (by rw[HR2.out,h0];rfl)
     have h0n:(t != 0)=false:=by rw[bne,h0];rfl
     go_enter Tryz.func181,Tryz.ntmps181
     go_wp2_with (go_at_call 212;(first|(with_reducible refine(a1e p _ HP.out _).mono ?_)|(with_reducible refine(a1e t _ HT.out _).mono ?_));rintro e w2 ⟨rfl,rfl⟩)
     go_ret
     exact⟨a0e HF.out.symm,a0b (Below.refl _ _) _⟩
    | false =>
     have HF:Hid (rightE ⟨true,p,n,t⟩=nameB n):=ι (by rw[HR2.out,h0];simp)
     have h0n:(t != 0)=true:=by rw[bne,h0];rfl
     go_enter Tryz.func181,Tryz.ntmps181
     go_wp2_with (first|(go_at_call 212;(first|(with_reducible refine(a1e p _ HP.out _).mono ?_)|(with_reducible refine(a1e t _ HT.out _).mono ?_));rintro e w2 ⟨rfl,rfl⟩)|(go_at_call 106;refine(name_any n _ HL.out).mono ?_;rintro e w2 ⟨rfl,rfl⟩))
     go_ret
     exact⟨a0e HF.out.symm,a0b (Below.refl _ _) _⟩
end ly
namespace ly
set_option maxRecDepth 100000
open Go.ChangeShapes Go.WideShapes Go.ChangeAt Go.RowKit
open rows
open sec
open dsk (a0r a2r a2w a0c)
abbrev aggI(x:Ino):Value := .agg x.c.toArray
theorem a5r:Tryz.prog.underlying 50=some (.struct (Tryz.prog.fieldsOf 50)):=by kernel_rfl
theorem a5i:Tryz.prog.underlying 48=some (.array 4 3):=by kernel_rfl
theorem a3v:(Tryz.prog.info? 50).map (·.size)=some 6:=by kernel_rfl
theorem b6l:(Tryz.prog.info? 48).map (·.size)=some 4:=by kernel_rfl
theorem b3n:(Tryz.prog.fieldsOf 50).toList.map (fun f=>(f.name,f.type,f.offset))=[("Kind", 3,0),("Size", 3,1),("Blocks", 48,2)]:=by kernel_rfl
theorem a3p{x:Ino}(h:x.b.length=4):x.c.length=6:=by simp[Ino.c,i64s,h]
theorem b8q(x:Ino):x.c.all (·.oneCell')=true:=by
 simp[Ino.c,i64s,Value.oneCell']
def AtI(w:World)(g:Nat)(x:Ino):Prop:=w.heap[g]? = some (.cells x.c.toArray 50)
theorem AtI.later{w w':World}{g:Nat}{x:Ino}(h:AtI w g x)(k:Below w.heap.size w w'):AtI w' g x:=(k.block g (Array.getElem?_eq_some_iff.1 h).1).trans h
theorem AtI.alloc{w:World}{g:Nat}{x:Ino}(h:AtI w g x)(o:Obj):AtI (w.alloc o) g x:=h.later (a0b (Below.refl _ _) o)
theorem a4n(w:World)(x:Ino):AtI (w.alloc (.cells x.c.toArray 50)) w.heap.size x:=heap_alloc_new _ _
theorem AtI.range{w:World}{g:Nat}{x:Ino}(h:AtI w g x):w.rangeAt g 0 x.c:=by
 have:=World.rangeAt_of_block h 0 x.c.toArray.size
 simpa using this
theorem AtI.cell0{w:World}{g:Nat}{x:Ino}(h:AtI w g x):w.cell? ⟨g,0,none⟩=some (.int .i64 x.kind):=a0c h 0 _ rfl
theorem AtI.cell1{w:World}{g:Nat}{x:Ino}(h:AtI w g x):w.cell? ⟨g,1,none⟩=some (.int .i64 x.size):=a0c h 1 _ rfl
theorem AtI.cellb{w:World}{g:Nat}{x:Ino}(h:AtI w g x){i:Nat}(hi:i<x.b.length):w.cell? ⟨g,2+i,none⟩=some (.int .i64 (x.b.getD i 0)) :=
 a0c h _ _ (by simp[Ino.c,i64s,show 2+i=i+1+1 by omega,List.getD,hi])
theorem AtI.setOther{w:World}{g k j:Nat}{x:Ino}(h:AtI w k x)(hk:k≠g)(v:Value):AtI (w.setCell ⟨g,j,none⟩ v) k x:=(Below.heap_setCell _ _ _ _ hk).trans h
theorem a1v{ops:Array Oper}{rest:List Oper}{o:Oper}{a:Act}{w:World}{Q:Exit→Act→World→Prop}(hgd:o.guard=none)(p:Operand)(ho:o.op = .load 50 p)
  (g:Nat) (hp:a.eval p = .pointer (some ⟨g,0,none⟩)) (x:Ino) (hx:x.b.length=4) (hg:AtI w g x)
  (h:wpList Tryz.prog ops Q rest (a.put o.dst (aggI x)) w):wpList Tryz.prog ops Q (o::rest) a w :=
 wpList_load_row hgd 50 p ho g hp 50 _ _ _ hg a5r rfl (by rw[a3v];simp[a3p hx]) h
theorem ld_ino{ops:Array Oper}{S:World→Prop}{op:Oper}{a:Act}(hw:Region.wanted op (yielded ops a.tmps)=true)(p:Operand)(ho:op.op = .load 50 p)
  (g:Nat) (hp:a.eval p = .pointer (some ⟨g,0,none⟩)) (x:Ino) (hx:x.b.length=4) (hS:∀w,S w→AtI w g x):YieldsIf Tryz.prog ops S op (aggI x) a :=
 yieldsIf_load_mid hw _ p ho g 0 hp x.c _ (fun w h=>(hS w h).range) a5r rfl (by rw[a3v];simp[a3p hx])
abbrev aggB(x:Ino):Value := .agg (i64s x.b).toArray
theorem b0p{ops:Array Oper}{rest:List Oper}{o:Oper}{a:Act}{w:World}{Q:Exit→Act→World→Prop}(hw:Region.wanted o (yielded ops a.tmps)=true)(p:Operand)(ho:o.op = .load 48 p)
  (g:Nat) (hp:a.eval p = .pointer (some ⟨g,2,none⟩)) (x:Ino) (hx:x.b.length=4) (hg:AtI w g x)
  (h:wpList Tryz.prog ops Q rest (a.put o.dst (aggB x)) w):wpList Tryz.prog ops Q (o::rest) a w :=
 wpList_step fun K hK=>by
  rw[if_pos hw]
  have hr:w.rangeAt g 2 (i64s x.b):=fun i u hi=>by
   have hl:i<(i64s x.b).length:=(List.getElem?_eq_some_iff.1 hi).1
   have hl2:i<x.b.length:=by simpa [i64s] using hl
   rw[hg.cellb hl2,← hi]
   simp[i64s,List.getD,hl2]
  exact wp_load_mid 48 p ho g 2 hp (i64s x.b) _ hr a5i rfl (by rw[b6l];simp[i64s,hx]) (hK _ _ h)
theorem a1i{ops:Array Oper}{rest:List Oper}{o:Oper}{a:Act}{w:World}{Q:Exit→Act→World→Prop}(hgd:o.guard=none)(p y:Operand)(ho:o.op = .store 50 p y)(hd:o.dst=none)
  (g:Nat) (x old:Ino) (hp:a.eval p = .pointer (some ⟨g,0,none⟩)) (hy:a.eval y=aggI x) (hx:x.b.length=4) (hold:old.b.length=4) (hg:AtI w g old)
  (h:∀w',AtI w' g x→Below g w w'→(∀k,k≠g→w'.heap[k]? = w.heap[k]?)→wpList Tryz.prog ops Q rest a w'):wpList Tryz.prog ops Q (o::rest) a w:=by
 refine wpList_store_row hgd 50 p y ho g x.c.toArray hp hy 50 _ hg (by rw[a3v];simp[a3p hx]) (by simp[a3p hx,a3p hold]) (by rw[List.all_toArray];exact b8q x) ?_
 rw[hd]
 exact h _ (setRow_heap w g _ _ _ _ hg) ((Below.refl g w).trans ⟨rfl,rfl,rfl,by simp[World.setRow],fun k hk=>setRow_other w g k _ (by omega)⟩) (fun k hk=>setRow_other w g k _ hk)
theorem a8d{fn:Func}{p q:Tmp}{R:Ending→World→Prop}{a:Act}{w:World}(h:fn.results = #[.cell p 50,.tmp q])(g:Nat)(x:Ino)(v:Value)(hp:a.tmps.getD p undef = .pointer (some ⟨g,0,none⟩))(hq:a.tmps.getD q undef=v)(hx:x.b.length=4)(hg:AtI w g x)
  (hd:a.defers=[]) (hR:R (.returned (.tuple #[aggI x,v])) w):bodyPost Tryz.prog fn R .ret a w:=by
 refine bodyPost_ret (v := .tuple #[aggI x,v]) ?_ hd hR
 have hp':a.tmps[p]?.getD undef = .pointer (some ⟨g,0,none⟩):=by simpa using hp
 have hq':a.tmps[q]?.getD undef=v:=by simpa using hq
 have hl:=run_loadVar_row (P:=Tryz.prog) w g _ 50 _ _ _ hg a5r rfl (by rw[a3v];simp[a3p hx])
 simp[results,h,hp',hq',asAddr,hl]
theorem b8a:Tryz.prog.cellsOf 3=1:=by kernel_rfl
theorem a4u(d:Nat)(w:World)(xs ys:List Int):∀(is:List Nat),(∀i∈is,i<xs.length∧i<ys.length)→(Op.eqItems (d+1) 3 1 (i64s xs).toArray (i64s ys).toArray is).run Tryz.prog w = .ok (is.all fun i=>xs.getD i 0 == ys.getD i 0) w
 | [],_=>by simp[Op.eqItems]
 | i::is,h=>by
  have ih:=a4u d w xs ys is fun k hk=>h k (List.mem_cons_of_mem _ hk)
  obtain⟨h1,h2⟩:=h i (List.mem_cons_self ..)
  have e1:(i64s xs).toArray[i]? = some (.int .i64 (xs.getD i 0)):=by simp[i64s,List.getD,h1]
  have e2:(i64s ys).toArray[i]? = some (.int .i64 (ys.getD i 0)):=by simp[i64s,List.getD,h2]
  simp only[Op.eqItems,Sem.run_bind,Nat.mul_one,a2r w _ i _ e1,a2r w _ i _ e2,run_equalIn_int w d _ _ _ _ _ a2w,Result.andThen_ok,List.all_cons]
  cases xs.getD i 0 == ys.getD i 0
  ·simp
  ·simpa using ih
theorem b5w(d:Nat)(w:World){a b:List Int}(ha:a.length=4)(hb:b.length=4):(Op.equalIn (d+2) 48 (.agg (i64s a).toArray) (.agg (i64s b).toArray)).run Tryz.prog w = .ok (decide (a=b)) w:=by
 obtain⟨i,hi⟩:=Option.isSome_iff_exists.1 (show (Tryz.prog.info? 3).isSome=true by kernel_rfl)
 rw[run_equalIn_array w (d+1) _ _ a5i hi,b8a,a4u d w a b _ (fun i hi=>by have:=List.mem_range.1 hi;omega)]
 congr 1
 rw[Bool.eq_iff_iff,List.all_eq_true,decide_eq_true_eq]
 constructor
 ·intro h
  apply List.ext_getElem (by omega)
  intro i h1 h2
  have:=h i (List.mem_range.2 (by omega))
  simpa [List.getD,h1,h2] using this
 ·rintro rfl i _
  simp
theorem b0b(w:World)(x:Ino)(hx:x.b.length=4):(part 48 x.c.toArray 2).run Tryz.prog w = .ok (.agg (i64s x.b).toArray) w:=by
 have hs:(sizeOf 48).run Tryz.prog w = .ok 4 w:=by kernel_rfl
 have he:List.take 4 (List.drop 2 x.c)=i64s x.b:=by
  simp only[Ino.c,List.drop_succ_cons,List.drop_zero]
  rw[List.take_of_length_le (by simp[i64s,hx])]
 simp[part,isAgg,run_underlying a5i,hs]
 exact he
theorem b5b:Tryz.prog.eqGuardType Tryz.prog.depth 50=false:=by kernel_rfl
theorem c0s(w:World){x y:Ino}(hx:x.b.length=4)(hy:y.b.length=4):(Op.equalIn 10000 50 (aggI x) (aggI y)).run Tryz.prog w = .ok (decide (x=y)) w:=by
 have hs:Tryz.prog.stoodInHeld 50=false:=by kernel_rfl
 rw[show (10000:Nat)=9999+1 from rfl,run_equalIn_struct w 9999 _ _ _ a5r hs]
 have hf:=b3n
 match hq:(Tryz.prog.fieldsOf 50).toList with
 | []=>rw[hq] at hf;simp at hf
 | [_]=>rw[hq] at hf;simp at hf
 | [_,_]=>rw[hq] at hf;simp at hf
 | [f,g,h] =>
  rw[hq] at hf
  simp only[List.map_cons,List.map_nil,List.cons.injEq,Prod.mk.injEq,and_true] at hf
  obtain⟨⟨n1,t1,o1⟩,⟨n2,t2,o2⟩,n3,t3,o3⟩:=hf
  rw[a0r 9999 _ _ f _ (by rw[n1];decide) w (a := .int .i64 x.kind) (b := .int .i64 y.kind) (r:=x.kind == y.kind) (by rw[t1,o1];exact a2r w _ 0 _ rfl) (by rw[t1,o1];exact a2r w _ 0 _ rfl) (by rw[t1];exact run_equalIn_int w 9998 _ _ _ _ _ a2w)]
  rw[a0r 9999 _ _ g _ (by rw[n2];decide) w (a := .int .i64 x.size) (b := .int .i64 y.size) (r:=x.size == y.size) (by rw[t2,o2];exact a2r w _ 1 _ rfl) (by rw[t2,o2];exact a2r w _ 1 _ rfl) (by rw[t2];exact run_equalIn_int w 9998 _ _ _ _ _ a2w)]
  rw[a0r 9999 _ _ h [] (by rw[n3];decide) w (a := .agg (i64s x.b).toArray) (b := .agg (i64s y.b).toArray) (r:=decide (x.b=y.b)) (by rw[t3,o3];exact b0b w x hx) (by rw[t3,o3];exact b0b w y hy) (by rw[t3];exact b5w 9997 w hx hy)]
  obtain⟨k,z,b⟩:=x
  obtain⟨k',z',b'⟩:=y
  cases h1:(k == k')<;>cases h2:(z == z')<;>cases h3:decide (b=b')<;>simp_all [Op.eqFields]
 | _::_::_::_::_=>rw[hq] at hf;simp at hf
end ly
namespace ly
set_option maxRecDepth 100000
open Go.ChangeShapes Go.WideShapes Go.ChangeAt Go.RowKit
open rows
open sec
structure BoxI (w w1:World) (x:Ino):Prop where
 at_:AtI w1 w.heap.size x
 below:Below w.heap.size w w1
 four:x.b.length=4
theorem boxI(w:World)(x:Ino)(h:x.b.length=4):∃w1,w.alloc (.cells x.c.toArray 50)=w1∧BoxI w w1 x:=⟨_,rfl,a4n w x,a0b (Below.refl _ _) _,h⟩
theorem a3b(v:Int)(p:Option Addr)(n c:Nat)(xs:List Int)(w:World)(h:Rd w 1 (.slice p n c) n (i64s xs))(hn:n≤1000) :
  Calls Tryz.prog 229 #[.slice p n c,.int .i64 v] w fun e w'=>(∃k:Int,e = .returned (.int .i64 k)∧decide (0≤k)=xs.contains v)∧w=w':=by
 have hl:xs.length=n:=by have:=h.cells;simpa [i64s] using this
 have HR:=ι h
 have HL:=ι hl
 have HA:=ι fun k (hk:k<xs.length)=>b8r xs k v hk
 have HE:Hid (xs.take n=xs):=ι (List.take_of_length_le (by omega))
 have hni:(n:Int)≤1000:=by omega
 clear h hl
 go_enter Tryz.func229,Tryz.ntmps229
 go_wp2
 go_loop [5,8] (fun i r=>∃k:Nat,k≤n∧r = .int .i64 (k:Int)∧Hid ((xs.take k).contains v=false)) (fun _ r=>n-(intOf r).toNat)
 case atStart=>exact⟨0,by omega,rfl,ι rfl⟩
 case round =>
  obtain⟨k,hk,rfl,HK⟩:=hrel
  by_cases hlt:k<n
  ·have hki:(k:Int)<n:=by omega
   obtain⟨b,off,rfl,_,_,_,_,hcell⟩:=Rd.at HR.out hlt
   have hck:=hcell k hlt
   have HT:=ι (HA.out k (by rw[HL.out];exact hlt))
   clear hcell
   generalize xs.getD k 0=u at hck HT
   cases hu:(v == u) with
   | true =>
    have HM:Hid (xs.contains v=true):=ι (by
     have h:=b8t (b:=xs) (k:=k+1) n (v:=v) (by rw[HT.out,hu];simp) (by omega)
     rwa [HE.out] at h)
    go_wp2_with fail
    go_ret
    exact⟨⟨_,rfl,by have h:=HM.out;simp at h;simp[h]⟩,rfl⟩
   | false =>
    go_wp2_with fail
    go_round
    case rel=>exact⟨k+1,by omega,by go_num,ι (by rw[HT.out,HK.out,hu];rfl)⟩
    case measure=>simp[intOf];omega
  ·obtain rfl:k=n:=by omega
   go_wp2_with fail
   go_ret
   exact⟨⟨_,rfl,by have h:=HK.out;rw[HE.out] at h;simp at h;simp[h]⟩,rfl⟩
theorem a9u(v:Int)(p:Option Addr)(n c:Nat)(xs:List Int)(w:World)(h:Rd w 1 (.slice p n c) n (i64s xs))(hn:n≤1000) :
  Calls Tryz.prog 213 #[.slice p n c,.int .i64 v] w fun e w'=>e = .returned (.bool (xs.contains v))∧w=w':=by
 have HI:=ι (a3b v p n c xs w h hn)
 clear h
 go_enter Tryz.func213,Tryz.ntmps213
 go_wp2_with (go_at_call 229;refine HI.out.mono ?_;rintro e w1 ⟨⟨k,rfl,hk⟩,rfl⟩;have HK:=ι hk;clear hk)
 all_goals go_ret
 exact⟨a0e HK.out,rfl⟩
end ly
namespace ly
set_option maxRecDepth 100000
open Go.ChangeShapes Go.WideShapes Go.ChangeAt Go.RowKit
open rows
open sec
open dsk (a0c)
def At4(w:World)(g:Nat)(b:List Int):Prop:=w.heap[g]? = some (.cells (i64s b).toArray 48)
theorem At4.cell{w:World}{g:Nat}{b:List Int}(h:At4 w g b){i:Nat}(hi:i<b.length):w.cell? ⟨g,i,none⟩=some (.int .i64 (b.getD i 0)) :=
 a0c h _ _ (by simp[i64s,List.getD,hi])
theorem At4.rd{w:World}{g:Nat}{b:List Int}(h:At4 w g b)(i:Nat)(hi:i≤b.length)(hl:b.length=4):Rd w 1 (.slice (some ⟨g,0,none⟩) i 4) i (i64s (b.take i)):=by
 by_cases h0:i=0
 ·subst h0
  exact Or.inl ⟨_,_,rfl,rfl,rfl,fun h=>by cases h⟩
 ·refine Or.inr ⟨g,0,4,rfl,by omega,by omega,by unfold maxLen;omega,(Array.getElem?_eq_some_iff.1 h).1,by simp[i64s];omega,fun j u hj => ?_⟩
  have hj':j<(i64s (b.take i)).length:=(List.getElem?_eq_some_iff.1 hj).1
  have hj2:j<i:=by simp[i64s] at hj';omega
  rw[Nat.zero_add,h.cell (by omega),← hj]
  simp[i64s,List.getD,hj2,show j<b.length by omega,List.getElem?_take]
theorem a6f(b:List Int)(hb:b.length=4)(z:Nat)(hz:z≤128)(w:World) :
  Calls Tryz.prog 182 #[.agg (i64s b).toArray,.int .i64 (z:Int)] w (Rt w (.bool (blks b (need z) 4))):=by
 obtain⟨w1,hw1,HA,HB⟩:∃w1,w.alloc (.cells (i64s b).toArray 48)=w1∧Hid (At4 w1 w.heap.size b)∧Hid (Below w.heap.size w w1):=⟨_,rfl,ι (heap_alloc_new _ _),ι (a0b (Below.refl _ _) _)⟩
 have HL:=ι hb
 have hz3:(z:Int)≤128:=by omega
 have HM:=ι (b1e hz)
 have hM:(need z:Int)≤4:=by have:=b1e hz;omega
 obtain⟨m,hm⟩:∃m,need z=m:=⟨_,rfl⟩
 rw[hm] at HM hM
 rw[hm]
 have HQ:Hid (((z:Int)+32-1) / 32=(m:Int)):=ι (by rw[← hm,need];omega)
 clear hb
 go_enter Tryz.func182,Tryz.ntmps182
 go_upto_region 2 with fail
 rw[HQ.out]
 go_wp2_with fail
 go_loop [6,7,17] (fun i v r=>∃j:Nat,j≤m∧r = .int .i64 (j:Int)∧Hid (blks b m j=true)) (fun _ _ r=>m-(intOf r).toNat)
 case atStart=>exact⟨0,by omega,rfl,ι rfl⟩
 case round =>
  obtain⟨j,hj,rfl,HU⟩:=hrel
  have HS:=ι (a6i b m j)
  by_cases hlt:j<m
  ·have HF:=ι fun h=>a7g (b:=b) (m:=m) (j:=j+1) 4 h (by have:=HM.out;omega)
   have hji:(j:Int)<m:=by omega
   have hj4:(j:Int)≤4:=by omega
   have hcj:=HA.out.cell (i:=j) (by rw[HL.out];have:=HM.out;omega)
   have HO2:=ι (a4l (b:=b) hlt)
   have HR:=ι (HA.out.rd j (by rw[HL.out];have:=HM.out;omega) HL.out)
   generalize b.getD j 0=v at hcj HO2
   by_cases hb:v<1∨24<v
   ·have HZ:=ι (HF.out (by
      rw[HS.out,HO2.out];rcases hb with h|h
      ·simp[show ¬1≤v by omega]
      ·simp[show ¬v≤24 by omega]))
    by_cases hb1:v<1
    ·clear hb
     go_wp2_with fail
     go_ret
     exact⟨a0e (by rw[HZ.out]),HB.out⟩
    ·have hb2:24<v:=by omega
     have hb3:1≤v:=by omega
     clear hb
     go_wp2_with fail
     go_ret
     exact⟨a0e (by rw[HZ.out]),HB.out⟩
   ·have hb2:v≤24:=by omega
    have hb3:1≤v:=by omega
    clear hb
    have HC:=ι (a9u v _ j 4 _ w1 HR.out (by omega))
    generalize hc:(b.take j).contains v=cc at HC HO2
    cases cc with
    | true =>
     have HZ:=ι (HF.out (by rw[HS.out,HO2.out];simp))
     go_wp2_with (go_at_call 213;refine HC.out.mono ?_;rintro e w2 ⟨rfl,rfl⟩)
     go_ret
     exact⟨a0e (by rw[HZ.out]),HB.out⟩
    | false =>
     go_wp2_with (go_at_call 213;refine HC.out.mono ?_;rintro e w2 ⟨rfl,rfl⟩)
     go_round
     case rel=>exact⟨j+1,by omega,by go_num,ι (by rw[HS.out,HU.out,HO2.out];simp[hb2,hb3])⟩
     case measure=>simp[intOf];omega
  ·obtain rfl:j=m:=by omega
   have hj4:(4=j)∨¬4=j:=by omega
   rcases hj4 with hj4|hj4
   ·go_wp2_with fail
    go_loop [9,38] (fun v r=>∃k:Nat,j+k≤4∧r = .int .i64 (k:Int)) (fun _ r=>4-(intOf r).toNat)
    case atStart=>exact⟨0,by omega,rfl⟩
    case round =>
     obtain⟨k,hk,rfl⟩:=hrel
     obtain rfl:k=0:=by omega
     go_wp2_with fail
     go_ret
     exact⟨a0e (by rw[HU.out]),HB.out⟩
   ·go_wp2_with fail
    go_loop [9,38] (fun v r=>∃k:Nat,j+k≤4∧r = .int .i64 (k:Int)∧Hid (blks b j (j+k)=true)) (fun _ r=>4-(intOf r).toNat)
    case atStart=>exact⟨0,by omega,rfl,HU⟩
    case round =>
     obtain⟨k,hk,rfl,HV⟩:=hrel
     by_cases hlt2:j+k<4
     ·have hki:(k:Int)<4-j:=by omega
      have hki2:((k:Nat):Int)<((4-j:Nat):Int):=by omega
      have hck:=HA.out.cell (i:=j+k) (by rw[HL.out];omega)
      have HF2:=ι fun h=>a7g (b:=b) (m:=j) (j:=j+k+1) 4 h (by omega)
      have HS2:=ι (a6i b j (j+k))
      have HO1:=ι (a7o (b:=b) (m:=j) (i:=j+k) (by omega))
      generalize b.getD (j+k) 0=v at hck HO1
      cases hb:(v == 0) with
      | true =>
       go_wp2_with fail
       go_round
       case rel=>exact⟨k+1,by omega,by go_num,ι (by rw[← Nat.add_assoc,HS2.out,HV.out,HO1.out,hb];rfl)⟩
       case measure=>simp[intOf];omega
      | false =>
       have HZ:=ι (HF2.out (by rw[HS2.out,HO1.out,hb];simp))
       go_wp2_with fail
       go_ret
       exact⟨a0e (by rw[HZ.out]),HB.out⟩
     ·have hk4:j+k=4:=by omega
      rw[hk4] at HV
      go_wp2_with fail
      go_ret
      exact⟨a0e (by rw[HV.out]),HB.out⟩
theorem b4a(w:World){x:Ino}(hx:x.b.length=4)(k:Int)(hk:x.kind=k):(Op.equalIn 10000 50 (aggI x) (.agg #[.int .i64 k,.int .i64 0,.int .i64 0,.int .i64 0,.int .i64 0,.int .i64 0])).run Tryz.prog w = .ok (x.size == 0 && x.b == [0,0,0,0]) w:=by
 subst hk
 have h:=c0s w hx (y:=⟨x.kind,0,[0,0,0,0]⟩) rfl
 have e:decide (x=⟨x.kind,0,[0,0,0,0]⟩)=(x.size == 0 && x.b == [0,0,0,0]):=by
  rw[Bool.eq_iff_iff]
  obtain⟨k,z,b⟩:=x
  simp
 rw[← e]
 exact h
set_option maxHeartbeats 1600000 in
theorem a7e(x:Ino)(hx:x.ok)(w:World) :
  Calls Tryz.prog 152 #[aggI x] w (Rt w (.bool (rightI x))):=by
 obtain⟨w1,hw1,HB'⟩:=boxI w x hx.four
 have HB:=ι HB'
 have hc0:=HB'.at_.cell0
 have hc1:=HB'.at_.cell1
 have HX:=ι hx
 clear HB' hx
 by_cases hk:x.kind=0∨x.kind=2
 ·have HR:=ι (a2z hk)
  have hg:=b5b
  rcases hk with hk|hk
  all_goals
   have hq:=fun w=>b4a w HX.out.four _ hk
   rw[hk] at hc0
   go_enter Tryz.func152,Tryz.ntmps152
   go_wp2_with (refine a1v rfl _ rfl w.heap.size rfl x HX.out.four HB.out.at_ ?_)
   go_ret
   exact⟨a0e (by rw[HR.out]),HB.out.below⟩
 ·have k0:(x.kind == 0)=false:=by simp;omega
  have k2:(x.kind == 2)=false:=by simp;omega
  by_cases h1:x.kind=1
  ·have HR:=ι (a2u h1)
   rw[h1] at hc0
   clear k0 k2 hk
   by_cases hs:0≤x.size∧x.size≤128
   ·obtain⟨hs1,hs2⟩:=hs
    obtain⟨z,hz⟩:=Int.eq_ofNat_of_zero_le hs1
    have hz2:z≤128:=by omega
    rw[hz] at hc1 HR
    have hz3:(z:Int)≤128:=by omega
    have HR':Hid (rightI x=blks x.b (need z) 4):=ι (by rw[HR.out];simp[hz3])
    clear HR hs1 hs2 hz
    go_enter Tryz.func152,Tryz.ntmps152
    go_wp2_with (first|(refine b0p ?_ _ rfl w.heap.size rfl x HX.out.four HB.out.at_ ?_;· rfl)|(go_at_call 182;refine(a6f x.b HX.out.four z hz2 _).mono ?_;rintro e w2 ⟨rfl,hb2⟩;have HB2:=ι hb2;clear hb2))
    go_ret
    exact⟨a0e HR'.out.symm,a0a HB.out.below HB2.out⟩
   ·have HR':Hid (rightI x=false):=ι (by rw[HR.out];by_cases h:0≤x.size<;>simp[h];omega)
    clear HR
    by_cases h:x.size<0
    ·go_enter Tryz.func152,Tryz.ntmps152
     go_wp2_with fail
     go_ret
     exact⟨a0e HR'.out.symm,HB.out.below⟩
    ·have h3:128<x.size:=by omega
     have h4:0≤x.size:=by omega
     go_enter Tryz.func152,Tryz.ntmps152
     go_wp2_with fail
     go_ret
     exact⟨a0e HR'.out.symm,HB.out.below⟩
  ·have k1:(x.kind == 1)=false:=by simp;omega
   have HR:=ι (a3k (x:=x) (by omega) h1 (by omega))
   go_enter Tryz.func152,Tryz.ntmps152
   go_wp2_with fail
   go_ret
   exact⟨a0e HR.out.symm,HB.out.below⟩
end ly
namespace ly
set_option maxRecDepth 100000
open Go.ChangeShapes Go.WideShapes Go.ChangeAt Go.RowKit
open rows
open sec
open dsk (a0j)
structure Boxes (w W:World) (x:Ino) (s:List Int):Prop where
 ino:AtI W w.heap.size x
 out:At W (w.heap.size+1) s
 below:Below w.heap.size w W
theorem boxes(w:World)(x:Ino):∃W,(w.alloc (.cells x.c.toArray 50)).alloc (.cells (u8s zero32).toArray 74)=W∧Boxes w W x zero32 :=
 ⟨_,rfl,(a4n w x).alloc _,by have:=at_new (w.alloc (.cells x.c.toArray 50)) zero32;simpa using this,a0b (a0b (Below.refl _ _) _) _⟩
theorem Boxes.later{w W W':World}{x:Ino}{s:List Int}(h:Boxes w W x s)(hb:Below W.heap.size W W'):Boxes w W' x s:=⟨h.ino.later hb,h.out.later hb,a0a h.below hb⟩
theorem a1c(w:World):At (w.alloc (.cells #[Value.int IntKind.u8 0,Value.int IntKind.u8 0,Value.int IntKind.u8 0,Value.int IntKind.u8 0,Value.int IntKind.u8 0,Value.int IntKind.u8 0,Value.int IntKind.u8 0,Value.int IntKind.u8 0,Value.int IntKind.u8 0,Value.int IntKind.u8 0,Value.int IntKind.u8 0,Value.int IntKind.u8 0,Value.int IntKind.u8 0,Value.int IntKind.u8 0,Value.int IntKind.u8 0,Value.int IntKind.u8 0,Value.int IntKind.u8 0,Value.int IntKind.u8 0,Value.int IntKind.u8 0,Value.int IntKind.u8 0,Value.int IntKind.u8 0,Value.int IntKind.u8 0,Value.int IntKind.u8 0,Value.int IntKind.u8 0,Value.int IntKind.u8 0,Value.int IntKind.u8 0,Value.int IntKind.u8 0,Value.int IntKind.u8 0,Value.int IntKind.u8 0,Value.int IntKind.u8 0,Value.int IntKind.u8 0,Value.int IntKind.u8 0] 74)) w.heap.size zero32:=by
 have:=at_new w zero32
 rw[← a0u] at this
 exact this
theorem index4(b:List Int)(k:Nat)(hk:k<b.length)(h4:k<4)(w:World):(Instr.index 48 (.agg (i64s b).toArray) (.int .i64 (k:Int))).run Tryz.prog w = .ok (.int .i64 (b.getD k 0)) w:=by
 have h1:(0:Int)≤k:=by omega
 have h2:(k:Int)<4:=by omega
 have hv:(i64s b).toArray[k]? = some (.int .i64 (b.getD k 0)):=by simp[i64s,List.getD,hk]
 simp[Instr.index,run_underlying a5i,asIntOf,part,h1,hv,go_sem]
 rw[if_pos h4]
 simp only[List.getElem?_toArray,List.getD] at hv
 rw[hv]
 rfl
set_option maxRecDepth 100000 in
set_option maxHeartbeats 1600000 in
theorem c0f(x:Ino)(hx:x.ok)(w:World)(hr:rightI x=false) :
  Calls Tryz.prog 109 #[aggI x] w (Rt w (.tuple #[agg zero32,.bool false])):=by
 obtain⟨W,hW,HB'⟩:=boxes w x
 have HB:=ι HB'
 have HX:=ι hx
 have HR:=ι fun w=>a7e x hx w
 rw[hr] at HR
 clear HB' hx
 go_enter Tryz.func109,Tryz.ntmps109
 go_upto_region 1 with fail
 rw[a0u,hW]
 clear hW
 go_wp2_with (first|(refine a1v rfl _ rfl w.heap.size rfl x HX.out.four HB.out.ino ?_)|(go_at_call 152;refine(HR.out _).mono ?_;rintro e w2 ⟨rfl,hb2⟩;have HB2:=ι (HB.out.later hb2);clear hb2)|(refine a0g rfl _ _ rfl rfl (w.heap.size+1) zero32 zero32 rfl (congrArg Value.agg a0u) (by decide) (by decide) HB2.out.out ?_;intro w3 hA hB3 _;have A3:=ι hA;clear hA))
 refine a1m rfl (w.heap.size+1) _ _ rfl rfl (by decide) A3.out rfl ⟨rfl,?_⟩
 exact HB2.out.below.trans (hB3.mono (by omega))
set_option maxRecDepth 100000 in
set_option maxHeartbeats 3200000 in
theorem b6p(x:Ino)(hx:x.ok)(w:World)(hr:rightI x=true) :
  Calls Tryz.prog 109 #[aggI x] w (Rt w (.tuple #[agg (inoSec x),.bool true])):=by
 obtain⟨W,hW,HB'⟩:=boxes w x
 have HB:=ι HB'
 have HX:=ι hx
 have HR:=ι fun w=>a7e x hx w
 have hf:=a6u hx.four hr
 have HP:=ι (b1r hx.four)
 have k0:=hf.k0
 have k1:=hf.k1
 have s0:=hf.s0
 have s1:=hf.s1
 have HF:=ι hf.b
 rw[hr] at HR
 clear HB' hx hf hr
 go_enter Tryz.func109,Tryz.ntmps109
 go_upto_region 1 with fail
 rw[a0u,hW]
 clear hW
 go_upto_region 3 with(first|(refine a1v rfl _ rfl w.heap.size rfl x HX.out.four HB.out.ino ?_)|(go_at_call 152;refine(HR.out _).mono ?_;rintro e w2 ⟨rfl,hb2⟩;have HB2:=ι (HB.out.later hb2);clear hb2))
 have hc0:=HB2.out.ino.cell0
 have hc1:=HB2.out.ino.cell1
 go_upto_region 4 with(first|(refine a0g rfl _ _ rfl rfl w2.heap.size (inoPart x 0) zero32 rfl rfl (a3o HX.out.four 0 (by omega)) (by decide) (a1c w2) ?_;intro w3 hA hB3 hO3;have A3:=ι hA;have O3:=ι hO3;clear hA hO3))
 have HB3:=ι (HB2.out.later ((a0b (Below.refl _ _) _).trans hB3))
 have hg:w.heap.size+1<w2.heap.size:=(Array.getElem?_eq_some_iff.1 HB2.out.out).1
 obtain⟨g,hgg⟩:∃g,w2.heap.size=g:=⟨_,rfl⟩
 rw[hgg] at hg A3
 rw[hgg]
 clear hB3 O3 HB2 hc0 hc1 hgg
 go_wp2_with (refine b0p rfl _ rfl w.heap.size rfl x HX.out.four HB3.out.ino ?_)
 go_loopw [5,6,20] (fun _ _ iv wr=>∃(j:Nat),j≤4∧iv = .int .i64 (j:Int)∧Hid (At wr g (inoPart x j))∧Hid (Boxes w wr x zero32)) (fun _ _ iv _=>4-(intOf iv).toNat)
 case atStart=>exact⟨0,by omega,rfl,A3,HB3⟩
 case round =>
  clear A3 HB3
  obtain⟨j,hj,rfl,A3,HB3⟩:=hrel
  by_cases ha:j<4
  ·have ha1:(j:Int)<4:=by omega
   have HTL:=ι (a3o HX.out.four j (by omega))
   have HTS:=ι (b1p HX.out.four j (by omega))
   have hco:=HB3.out.ino.cellb (i:=j) (by rw[HX.out.four];omega)
   have hv:=HF.out (x.b.getD j 0) (by
     have:j<x.b.length:=by rw[HX.out.four];omega
     rw[show x.b.getD j 0=x.b[j] by simp[List.getD,this]];exact List.getElem_mem this)
   have hidx:=fun w=>index4 x.b j (by rw[HX.out.four];exact ha) ha w
   generalize x.b.getD j 0=v at hidx hv HTS
   clear hco
   obtain⟨v0,v1⟩:=hv
   have cs:=A3.out.cell (i:=2+j) (by rw[HTL.out];omega)
   have cf:wr.frozen? ⟨g,2+j,none⟩=false:=a0j A3.out (2+j)
   go_wp2_with fail
   go_roundw
   case rel=>exact⟨j+1,by omega,by go_num,ι (by rw[← HTS.out];exact a7x A3.out _),ι ⟨HB3.out.ino.setOther (by omega) _,a1l HB3.out.out (by omega) _,HB3.out.below.setCell (p:=⟨g,2+j,none⟩) (by simp;omega) _⟩⟩
   case measure=>simp[intOf];omega
  ·obtain rfl:j=4:=by omega
   rw[HP.out] at A3
   have HTL:Hid ((inoSec x).length=32):=ι (by rw[← HP.out];exact a3o HX.out.four 4 (by omega))
   go_wp2_with (first|(refine a5q rfl _ rfl g rfl _ HTL.out A3.out ?_)|(refine a0g rfl _ _ rfl rfl (w.heap.size+1) _ zero32 rfl rfl HTL.out (by decide) HB3.out.out ?_;intro w4 hA hB4 _;have A4:=ι hA;clear hA))
   refine a1m rfl (w.heap.size+1) _ _ rfl rfl HTL.out A4.out rfl ⟨rfl,?_⟩
   exact HB3.out.below.trans (hB4.mono (by omega))
def inoV(x:Ino):List Int:=if rightI x then inoSec x else zero32
theorem b9i{x:Ino}(h:x.b.length=4):Sec (inoV x):=by
 unfold inoV
 split
 ·exact b4d h ‹_›
 ·exact a1n
theorem b5m(x:Ino)(hx:x.ok)(w:World) :
  Calls Tryz.prog 109 #[aggI x] w (Rt w (.tuple #[agg (inoV x),.bool (rightI x)])):=by
 cases hr:rightI x with
 | true=>rw[inoV,if_pos hr];exact b6p x hx w hr
 | false=>rw[inoV,if_neg (by simp[hr])];exact c0f x hx w hr
end ly
namespace ly
set_option maxRecDepth 100000
open Go.ChangeShapes Go.WideShapes Go.ChangeAt Go.RowKit
open rows
open sec
open dsk (a0j a0f)
theorem atD{w:World}{g:Nat}{s:List Int}(h:At w g s){i:Nat}(hi:i<s.length):w.cell? ⟨g,i,none⟩=some (.int .u8 (s.getD i 0)):=by
 rw[sec.At.cell h hi];simp[List.getD,hi]
structure BoxesS (w W:World) (s:List Int):Prop where
 sec:At W w.heap.size s
 ino:AtI W (w.heap.size+1) ino0
 below:Below w.heap.size w W
theorem boxesS(w:World)(s:List Int)(hs:Sec s):∃W,(w.alloc (.cells (u8s s).toArray 74)).alloc (.cells #[.int .i64 0,.int .i64 0,.int .i64 0,.int .i64 0,.int .i64 0,.int .i64 0] 50)=W∧BoxesS w W s :=
 ⟨_,rfl,(at_new w s).alloc _,by have:=a4n (w.alloc (.cells (u8s s).toArray 74)) ino0;rw[show (w.alloc (.cells (u8s s).toArray 74)).heap.size=w.heap.size+1 by simp] at this;exact this,a0b (a0b (Below.refl _ _) _) _⟩
theorem BoxesS.later{w W W':World}{s:List Int}(h:BoxesS w W s)(hb:Below W.heap.size W W'):BoxesS w W' s:=⟨h.sec.later hb,h.ino.later hb,a0a h.below hb⟩
theorem AtI.setB{w:World}{g j:Nat}{x:Ino}(h:AtI w g x)(z:Int):AtI (w.setCell ⟨g,2+j,none⟩ (.int .i64 z)) g {x with b:=x.b.set j z}:=by
 have:=a0f (i:=2+j) h (.int .i64 z)
 rw[AtI,this]
 simp[Ino.c,i64s,List.map_set,show 2+j=j+1+1 by omega]
set_option maxRecDepth 100000 in
set_option maxHeartbeats 3200000 in
theorem b1a(s:List Int)(hs:Sec s)(w:World) :
  Calls Tryz.prog 58 #[agg s] w (Rt w (.tuple #[aggI (inoOfV s),.bool (inoOfB s)])):=by
 obtain⟨W,hW,HB'⟩:=boxesS w s hs
 have HB:=ι HB'
 have HS:=ι hs
 have hc0:=atD HB'.sec (i:=0) (by rw[hs.1];omega)
 have hc1:=atD HB'.sec (i:=1) (by rw[hs.1];omega)
 obtain⟨b0,b1⟩:=a0v hs 0
 obtain⟨c0,c1⟩:=a0v hs 1
 have HI:=ι fun w=>b5m (inoOf s) (b9s hs) w
 have HU:=ι (b5o s)
 have HVS:=ι (b9i (a3c hs))
 have HOV:Hid (inoOfV s=if inoOfB s then inoOf s else ino0):=ι rfl
 have HOB:Hid (inoOfB s=(rightI (inoOf s) && decide (inoSec (inoOf s)=s))):=ι rfl
 have HV1:Hid (rightI (inoOf s)=true→inoV (inoOf s)=inoSec (inoOf s)):=ι fun h=>by rw[inoV,if_pos h]
 have HU0:Hid ((⟨s.getD 0 0,s.getD 1 0,[0,0,0,0]⟩:Ino)=inoUp s 0):=ι rfl
 clear HB' hs
 generalize s.getD 0 0=k at hc0 b0 b1 HU0
 generalize s.getD 1 0=z at hc1 c0 c1 HU0
 go_enter Tryz.func58,Tryz.ntmps58
 go_upto_region 1 with fail
 clear hW
 go_wp2_with fail
 have A3:Hid (AtI (W.alloc (.cells #[.int .i64 k,.int .i64 z,.int .i64 0,.int .i64 0,.int .i64 0,.int .i64 0] 50)) W.heap.size (inoUp s 0)):=ι (by rw[← HU0.out];exact a4n W ⟨k,z,[0,0,0,0]⟩)
 have HB3:=ι (HB.out.later (a0b (Below.refl _ _) (.cells #[.int .i64 k,.int .i64 z,.int .i64 0,.int .i64 0,.int .i64 0,.int .i64 0] 50)))
 obtain⟨w3,hw3⟩:∃w3,W.alloc (.cells #[.int .i64 k,.int .i64 z,.int .i64 0,.int .i64 0,.int .i64 0,.int .i64 0] 50)=w3:=⟨_,rfl⟩
 rw[hw3] at A3 HB3
 rw[hw3]
 have hg:w.heap.size+1<W.heap.size:=(Array.getElem?_eq_some_iff.1 HB.out.ino).1
 obtain⟨g,hgg⟩:∃g,W.heap.size=g:=⟨_,rfl⟩
 rw[hgg] at hg A3
 rw[hgg]
 clear hw3 HB hc0 hc1 hgg HU0 b0 b1 c0 c1
 go_loopw [5,15] (fun _ iv wr=>∃(j:Nat),j≤4∧iv = .int .i64 (j:Int)∧Hid (AtI wr g (inoUp s j))∧Hid (BoxesS w wr s)) (fun _ iv _=>4-(intOf iv).toNat)
 case atStart=>exact⟨0,by omega,rfl,A3,HB3⟩
 case round =>
  clear A3 HB3
  obtain⟨j,hj,rfl,A3,HB3⟩:=hrel
  by_cases ha:j<4
  ·have ha1:(j:Int)<4:=by omega
   have HTL:=ι (b3q HS.out j (by omega))
   have HTS:=ι (b5z HS.out j (by omega))
   have hco:=atD HB3.out.sec (i:=2+j) (by rw[HS.out.1];omega)
   obtain⟨v0,v1⟩:=a0v HS.out (2+j)
   generalize s.getD (2+j) 0=v at hco v0 v1 HTS
   have cs:=A3.out.cellb (i:=j) (by rw[HTL.out];omega)
   have cf:wr.frozen? ⟨g,2+j,none⟩=false:=a0j A3.out (2+j)
   go_wp2_with fail
   go_roundw
   case rel=>exact⟨j+1,by omega,by go_num,ι (by rw[← HTS.out];exact A3.out.setB _),ι ⟨a1l HB3.out.sec (by omega) _,HB3.out.ino.setOther (by omega) _,HB3.out.below.setCell (p:=⟨g,2+j,none⟩) (by simp;omega) _⟩⟩
   case measure=>simp[intOf];omega
  ·obtain rfl:j=4:=by omega
   rw[HU.out] at A3
   have HTL:Hid ((inoOf s).b.length=4):=ι (a3c HS.out)
   generalize hr:rightI (inoOf s)=r at HI HOB HV1
   generalize inoV (inoOf s)=v at HI HVS HV1
   cases r with
   | false =>
    have HN:Hid (inoOfB s=false):=ι (by rw[HOB.out];rfl)
    have HZ:Hid (inoOfV s=ino0):=ι (by rw[HOV.out,HN.out];rfl)
    go_wp2_with (first|(refine a1v rfl _ rfl g rfl _ HTL.out A3.out ?_)|(go_at_call 109;refine(HI.out _).mono ?_;rintro e w4 ⟨rfl,hb4⟩;have HB4:=ι (HB3.out.later hb4);clear hb4)|(refine a0g rfl _ _ rfl rfl w4.heap.size v zero32 rfl rfl HVS.out.1 (by decide) (a1c w4) ?_;intro w5 hA hB5 hO5;have A5:=ι hA;have HB5:=ι (HB4.out.later ((a0b (Below.refl _ _) _).trans hB5));clear hA hO5 hB5)|(refine a1i rfl _ _ rfl rfl (w.heap.size+1) ino0 ino0 rfl rfl rfl rfl HB5.out.ino ?_;intro w6 hA hB6 _;have A6:=ι hA;clear hA))
    refine a8d rfl (w.heap.size+1) _ _ rfl rfl rfl A6.out rfl ⟨by rw[HZ.out,HN.out];rfl,?_⟩
    exact HB5.out.below.trans (hB6.mono (by omega))
   | true =>
    have e:=HV1.out rfl
    have hgs:=a9j
    generalize hd:decide (inoSec (inoOf s)=s)=d at HOB
    have hq:∀w,(Op.equalIn 10000 74 (agg s) (agg v)).run Tryz.prog w = .ok d w:=fun w=>(a5j w HS.out HVS.out).trans (by rw[← hd,e];congr 1;rw[Bool.eq_iff_iff];simp[eq_comm])
    have hq2:∀w,(Op.equalIn 10000 74 (agg v) (agg s)).run Tryz.prog w = .ok d w:=fun w=>(a5j w HVS.out HS.out).trans (by rw[← hd,e])
    clear e hd
    cases d with
    | false =>
     have HN:Hid (inoOfB s=false):=ι (by rw[HOB.out];rfl)
     have HZ:Hid (inoOfV s=ino0):=ι (by rw[HOV.out,HN.out];rfl)
     go_wp2_with (first|(refine a1v rfl _ rfl g rfl _ HTL.out A3.out ?_)|(go_at_call 109;refine(HI.out _).mono ?_;rintro e w4 ⟨rfl,hb4⟩;have HB4:=ι (HB3.out.later hb4);clear hb4)|(refine a0g rfl _ _ rfl rfl w4.heap.size v zero32 rfl rfl HVS.out.1 (by decide) (a1c w4) ?_;intro w5 hA hB5 hO5;have A5:=ι hA;have HB5:=ι (HB4.out.later ((a0b (Below.refl _ _) _).trans hB5));clear hA hO5 hB5)|(refine a1b ?_ _ rfl w.heap.size rfl s HS.out.1 HB5.out.sec ?_;· rfl)|(refine a1b ?_ _ rfl w4.heap.size rfl v HVS.out.1 A5.out ?_;· rfl)|(refine a1i rfl _ _ rfl rfl (w.heap.size+1) ino0 ino0 rfl rfl rfl rfl HB5.out.ino ?_;intro w6 hA hB6 _;have A6:=ι hA;clear hA))
     refine a8d rfl (w.heap.size+1) _ _ rfl rfl rfl A6.out rfl ⟨by rw[HZ.out,HN.out];rfl,?_⟩
     exact HB5.out.below.trans (hB6.mono (by omega))
    | true =>
     have HN:Hid (inoOfB s=true):=ι (by rw[HOB.out];rfl)
     have HZ:Hid (inoOfV s=inoOf s):=ι (by rw[HOV.out,HN.out];rfl)
     go_wp2_with (first|(refine a1v rfl _ rfl g rfl _ HTL.out A3.out ?_)|(go_at_call 109;refine(HI.out _).mono ?_;rintro e w4 ⟨rfl,hb4⟩;have HB4:=ι (HB3.out.later hb4);have A4:=ι (A3.out.later hb4);clear hb4)|(refine a0g rfl _ _ rfl rfl w4.heap.size v zero32 rfl rfl HVS.out.1 (by decide) (a1c w4) ?_;intro w5 hA hB5 hO5;have A5:=ι hA;have HB5:=ι (HB4.out.later ((a0b (Below.refl _ _) _).trans hB5));have A45:=ι (A4.out.later ((a0b (Below.refl _ _) _).trans hB5));clear hA hO5 hB5)|(refine a1b ?_ _ rfl w.heap.size rfl s HS.out.1 HB5.out.sec ?_;· rfl)|(refine a1b ?_ _ rfl w4.heap.size rfl v HVS.out.1 A5.out ?_;· rfl)|(refine a1v rfl _ rfl g rfl _ HTL.out A45.out ?_)|(refine a1i rfl _ _ rfl rfl (w.heap.size+1) (inoOf s) ino0 rfl rfl HTL.out rfl HB5.out.ino ?_;intro w6 hA hB6 _;have A6:=ι hA;clear hA))
     refine a8d rfl (w.heap.size+1) _ _ rfl rfl HTL.out A6.out rfl ⟨by rw[HZ.out,HN.out];rfl,?_⟩
     exact HB5.out.below.trans (hB6.mono (by omega))
end ly
namespace ly
set_option maxRecDepth 100000
open Go.RowKit
open rows
open sec
theorem b7l{s:List Int}(h:Sec s)(i k:Int):(cutOf s i k).length=cutN i k:=by
 unfold cutOf cutN
 split
 ·rename_i hc
  have:=h.1
  obtain⟨h1,h2,h3⟩:=hc
  simp;omega
 ·rfl
def entC(s:List Int):Ent:=⟨s.getD 0 0 == 1,s.getD 1 0,strOfNums (cutOf s 16 (s.getD 3 0)),s.getD 2 0⟩
def entOfB(s:List Int):Bool:=rightE (entC s) && decide (entSec (entC s)=s)
def entOfV(s:List Int):Ent:=if entOfB s then entC s else ent0
theorem entC_ok{s:List Int}(h:Sec s):(entC s).ok:=by
 refine⟨a2x (a0v h 1),a2x (a0v h 2),?_⟩
 have hl:=b7l h 16 (s.getD 3 0)
 simp only[entC,strOfNums_size,hl]
 unfold cutN maxLen
 split
 ·rename_i hc
  have:=hc.2.2
  omega
 ·omega
theorem a7r:rightE ent0=true:=by rw[a2k rfl,show ent0.name.toList=[] from(a7u _).2 rfl];rfl
end ly
end Go.Proofs.YtjedjkjhodgidaaGreatDoor
