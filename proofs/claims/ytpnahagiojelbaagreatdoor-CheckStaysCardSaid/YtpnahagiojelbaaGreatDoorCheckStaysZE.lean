/- What CheckStays wants, part 31. -/
import Derived.Test.YtpnahagiojelbaaGreatDoorCheckStaysA
import Derived.Test.YtpnahagiojelbaaGreatDoorCheckStaysB
import Derived.Test.YtpnahagiojelbaaGreatDoorCheckStaysI
import Derived.Test.YtpnahagiojelbaaGreatDoorCheckStaysO
import Derived.Test.YtpnahagiojelbaaGreatDoorCheckStaysR
import Derived.Test.YtpnahagiojelbaaGreatDoorCheckStaysS
import Derived.Test.YtpnahagiojelbaaGreatDoorCheckStaysT
import Derived.Test.YtpnahagiojelbaaGreatDoorCheckStaysV
import Derived.Test.YtpnahagiojelbaaGreatDoorCheckStaysW
import Derived.Test.YtpnahagiojelbaaGreatDoorCheckStaysX
import Derived.Test.YtpnahagiojelbaaGreatDoorCheckStaysZC
import Derived.Test.YtpnahagiojelbaaGreatDoorCheckStaysZD
import Derived.Test.YtpnahagiojelbaaGreatDoorCheckStaysShf
import Derived.Lib.SliceRun
set_option linter.unusedVariables false
set_option linter.unusedSimpArgs false
namespace Go.Proofs.YtpnahagiojelbaaGreatDoor
namespace lk
set_option maxRecDepth 100000
open Go.Sort Go.Lib
open Go.ChangeShapes Go.WideShapes Go.ChangeAt Go.RowKit
open rows
open rng
theorem enc_str(x:ByteArray):encStr x.data.toList = .string x:=by
 show Value.string ⟨x.data.toList.toArray⟩ = .string x
 rw[Array.toArray_toList]
theorem d3e(L:List ByteArray):strV L=(L.map fun x=>x.data.toList).map encStr:=by
 rw[strV,List.map_map]
 exact List.map_congr_left fun x _=>(enc_str x).symm
theorem c2h{B0 B:Nat}{w w':World}{e:TypeId}{sz n:Nat}{v:Value}{cs:List Value}(h:rows.Own w B e sz v n cs)(k:rng.Calm B0 w w'):rows.Own w' B e sz v n cs:=by
 refine⟨h.1,?_⟩
 rcases h.2 with h2|⟨g,cap,cur,hv,h3,h4,h5⟩
 ·exact Or.inl h2
 ·exact Or.inr ⟨g,cap,cur,hv,h3,k.block g _ h4 (Or.inr rfl),h5⟩
theorem d3h{w:World}{B:Nat}{e:TypeId}{p:Option Addr}{n c k:Nat}{cs:List Value}(h:rows.Own w B e 1 (.slice p n c) n cs)(hk:k≤n)(hp:p=none→c=0):Rd w 1 (.slice p k c) k (cs.take k):=by
 by_cases h0:k=0
 ·subst h0
  exact Or.inl ⟨p,c,rfl,rfl,rfl,hp⟩
 ·rcases h.rd with⟨p',cap',h1,rfl,rfl,h2⟩|⟨b,off,cap',h1,h2,h3,h4,h5,h6,h7⟩
  ·omega
  ·cases h1
   refine Or.inr ⟨b,off,c,rfl,by omega,by omega,h4,h5,?_,fun i u hi=>h7 i u ?_⟩
   ·rw[List.length_take,h6];omega
   ·rw[List.getElem?_take] at hi
    split at hi
    ·exact hi
    ·cases hi
theorem d2c{w:World}{B:Nat}{e:TypeId}{p:Option Addr}{n c:Nat}{cs:List Value}(h:rows.Own w B e 1 (.slice p n c) n cs):p=none→c=0:=by
 rintro rfl
 rcases h.2 with⟨h1,h2⟩|⟨g,cap,cur,h1,_⟩
 ·cases h1;rfl
 ·cases h1
theorem csort(p:Option Addr)(n c B:Nat)(zs:List (List UInt8))(w:World)(hn:n≤1000000)(h:rows.Own w B 9 1 (.slice p n c) n (zs.map encStr)) :
  Calls Tryz.prog 175 #[.slice p n c] w fun e w'=>e = .returned (.tuple #[])∧rows.Own w' B 9 1 (.slice p n c) n ((zs.mergeSort fun x y=>decide (x≤y)).map encStr)∧dsk.Touch (fun k=>(Value.slice p n c).ownBlock=some k) w w':=by
 have hl:zs.length=n:=by
  have:=h.1
  simpa using this
 by_cases h0:n=0
 ·subst h0
  refine(Tryz.slices_Sort_string_none p c w).mono ?_
  rintro e w' ⟨rfl,rfl⟩
  obtain rfl:zs=[]:=List.eq_nil_of_length_eq_zero hl
  exact⟨rfl,by simpa using h,dsk.Touch.refl _ _⟩
 ·rcases h.2 with⟨h1,h2⟩|⟨g,cap,cur,h1,h2,h3,h4,h5,h6,h7⟩
  ·exact absurd h2 h0
  ·cases h1
   rw[Nat.mul_one] at h7
   subst hl
   refine(Tryz.slices_Sort_string g 0 c zs w (holds_of_block h3 h7) (Array.getElem?_eq_some_iff.1 h3).1 (by omega)).mono ?_
   rintro e w' ⟨rfl,m,os,rfl⟩
   refine⟨rfl,ownsRow_sorted (List.length_mergeSort _) h2 h3 h4 h5 h6,?_⟩
   have hg:=grownBy_sorted (w:=w) (g:=g) (n:=m) (os:=os) (zs.mergeSort fun x y=>decide (x≤y)).toArray
   exact⟨hg.os,hg.tape,hg.output,hg.size,fun k hk hn=>hg.block k hk fun e=>hn (by rw[e];rfl)⟩
theorem ccompact(p:Option Addr)(n c B:Nat)(ys:List (List UInt8))(w:World)(hn:n≤1000000)(h:rows.Own w B 9 1 (.slice p n c) n (ys.map encStr)) :
  Calls Tryz.prog 176 #[.slice p n c] w fun e w'=>e = .returned (.slice p (Lib.compact ys).length c)∧(∃us,rows.Own w' B 9 1 (.slice p n c) n ((Lib.compact ys++us).map encStr))∧dsk.Touch (fun k=>(Value.slice p n c).ownBlock=some k) w w':=by
 have hl:ys.length=n:=by
  have:=h.1
  simpa using this
 by_cases h0:n=0
 ·subst h0
  refine(Tryz.slices_Compact_string_empty p c w).mono ?_
  rintro e w' ⟨rfl,rfl⟩
  obtain rfl:ys=[]:=List.eq_nil_of_length_eq_zero hl
  exact⟨rfl,⟨[],by simpa [Lib.compact,compactUpTo] using h⟩,dsk.Touch.refl _ _⟩
 ·rcases h.2 with⟨h1,h2⟩|⟨g,cap,cur,h1,h2,h3,h4,h5,h6,h7⟩
  ·exact absurd h2 h0
  ·cases h1
   rw[Nat.mul_one] at h7
   subst hl
   refine(Tryz.slices_Compact_string g 0 c ys w (holds_of_block h3 h7) (by omega) h4).mono ?_
   rintro e w' ⟨rfl,q,rfl⟩
   have hlen:=compact_length_le ys
   have e1:(Lib.compact ys++List.replicate (ys.length-(Lib.compact ys).length) ([]:List UInt8)).length=ys.length:=by
    rw[List.length_append,List.length_replicate];omega
   generalize List.replicate (ys.length-(Lib.compact ys).length) ([]:List UInt8)=us at *
   refine⟨rfl,⟨us,?_⟩,?_⟩
   ·have:=ownsRow_sorted (w:=w) (base:=B) (n:=q) (os := #[]) (ts:=Lib.compact ys++us) e1 h2 h3 h4 h5 h6
    rw[grow_empty] at this
    exact this
   ·have hg:=grownBy_sorted (w:=w) (g:=g) (n:=q) (os := #[]) (Lib.compact ys++us).toArray
    rw[grow_empty] at hg
    exact⟨hg.os,hg.tape,hg.output,hg.size,fun k hk hn=>hg.block k hk fun e=>hn (by rw[e];rfl)⟩
end lk
namespace lk
set_option maxRecDepth 100000
open Go.ChangeShapes Go.WideShapes Go.ChangeAt Go.RowKit
open rows
open sec
open dsk (a0g a0p a3c)
open ly
open rng
attribute [local go_sem] Oper.semAt_some
def named(ss:List (List Int))(l:List Nat):List ByteArray:=l.map fun(k:Nat)=>(entAt ss (k:Int)).name
theorem b7u(p:Nat→Bool)(m:Nat):(those p m).length≤m:=by
 have:=List.length_filter_le p (List.range m)
 rwa [List.length_range] at this
def bytesL(L:List ByteArray):List (List UInt8):=L.map fun x=>x.data.toList
def strsL(l:List (List UInt8)):List ByteArray:=l.map fun x=>⟨x.toArray⟩
theorem d2j(l:List (List UInt8)):strV (strsL l)=l.map encStr:=by
 rw[strV,strsL,List.map_map];rfl
theorem c5w(ss:List (List Int))(i:Int):IsList ss i (strsL (risen (bytesL (named ss (those (inDir ss i) 24))))):=by
 obtain⟨h1,h2⟩:=d3g (bytesL (named ss (those (inDir ss i) 24)))
 refine⟨?_,fun x => ?_⟩
 ·rw[strsL,List.pairwise_map]
  refine h1.imp fun {a b} hab => ?_
  rw[ltS_eq,decide_eq_true_eq]
  simpa [ByteArray.toList_eq] using hab
 ·rw[strsL,List.mem_map]
  constructor
  ·rintro⟨y,hy,rfl⟩
   obtain⟨z,hz,rfl⟩:=List.mem_map.1 ((h2 y).1 hy)
   obtain⟨k,hk,rfl⟩:=List.mem_map.1 hz
   obtain⟨h3,h4⟩:=those_mem.1 hk
   rw[inDir,Bool.and_eq_true,decide_eq_true_eq] at h4
   exact⟨k,h3,h4.1,h4.2,by simp⟩
  ·rintro⟨k,h3,h4,h5,rfl⟩
   refine⟨(entAt ss (k:Int)).name.data.toList,(h2 _).2 (List.mem_map.2 ⟨_,List.mem_map.2 ⟨k,those_mem.2 ⟨h3,?_⟩,rfl⟩,rfl⟩),by simp⟩
   rw[inDir,h4,h5,decide_eq_true rfl];rfl
structure NmsI (w:World) (B:Nat) (ss:List (List Int)) (pre:List Nat) (p:Option Addr) (n c:Nat) (W:World):Prop where
 box:Go.Boxed W w.heap.size 40 (.slice p n c)
 own:rows.Own W 0 9 1 (.slice p n c) n (strV (named ss pre))
 len:n=pre.length
 low:∀k,(Value.slice p n c).ownBlock=some k→B≤k
 below:Below w.heap.size w W
theorem NmsI.calm{w:World}{B:Nat}{ss:List (List Int)}{pre:List Nat}{p:Option Addr}{n c:Nat}{a b:World}(h:NmsI w B ss pre p n c a)(hB:w.heap.size≤B)(k:rng.Calm B a b):NmsI w B ss pre p n c b :=
 ⟨k.boxed h.box,c2h h.own k,h.len,h.low,h.below.trans (k.below hB h.below.size)⟩
theorem d5i{w:World}{B:Nat}{e:TypeId}{sz n:Nat}{v:Value}{cs:List Value}(h:rows.Own w B e sz v n cs){k:Nat}(hk:v.ownBlock=some k):∃cur,w.heap[k]? = some (.cells cur e (0,0)):=by
 rcases h.2 with⟨rfl,_⟩|⟨g,cap,cur,rfl,h3,h4,_⟩
 ·simp[Value.ownBlock] at hk
 ·obtain rfl:g=k:=by simpa [Value.ownBlock] using hk
  exact⟨_,h4⟩
theorem b3q{Z:Nat→Prop}{W W':World}{B:Nat}{t:TypeId}{v:Value}(h:Go.Boxed W B t v)(ht:dsk.Touch Z W W')(hT:¬Z B):Go.Boxed W' B t v:=(ht.block B h.lt hT).trans h
theorem b9h{cur:Array Value}:softE (.cells cur 9 (0,0)):=⟨cur,_,_,rfl,by decide,by decide⟩
set_option maxRecDepth 100000 in
set_option maxHeartbeats 2000000 in
theorem d3m(w:World)(d:Value)(ss:List (List Int))(i:Int)(h:Dk w d ss):Calls Tryz.prog 132 #[d,.int .i64 i] w fun e w'=>∃L q m k,IsList ss i L∧e = .returned (.slice q m k)∧m=L.length∧Rd w' 1 (.slice q m k) m (strV L)∧Below w.heap.size w w':=by
 have HD:=ι h
 obtain⟨p,rfl⟩:=a9l h
 clear h
 have hB0:=a0a (a0a (a0a (Below.refl w.heap.size w) (.cells #[.slice none 0 0] 40)) (.cells #[.pointer p] 45)) (.cells #[.int .i64 i] 3)
 have b0:=((Go.Boxed.new w 40 (.slice none 0 0)).alloc (.cells #[.pointer p] 45)).alloc (.cells #[.int .i64 i] 3)
 have b3:=(Go.Boxed.new (w.alloc (.cells #[.slice none 0 0] 40)) 45 (.pointer p)).alloc (.cells #[.int .i64 i] 3)
 have b4:=Go.Boxed.new ((w.alloc (.cells #[.slice none 0 0] 40)).alloc (.cells #[.pointer p] 45)) 3 (.int .i64 i)
 simp only[World.size_alloc] at b3 b4
 have hsz:(((w.alloc (.cells #[.slice none 0 0] 40)).alloc (.cells #[.pointer p] 45)).alloc (.cells #[.int .i64 i] 3)).heap.size=w.heap.size+3:=by simp[World.size_alloc]
 obtain⟨W0,hW0⟩:∃W0,((w.alloc (.cells #[.slice none 0 0] 40)).alloc (.cells #[.pointer p] 45)).alloc (.cells #[.int .i64 i] 3)=W0:=⟨_,rfl⟩
 rw[hW0] at hB0 b0 b3 b4 hsz
 have HB0:=ι hB0
 have B0:=ι b0
 have B3:=ι b3
 have B4:=ι b4
 have HSZ:=ι hsz
 have hwz:w.heap.size≤W0.heap.size:=by omega
 clear hB0 b0 b3 b4 hsz
 refine(callsIn_wide (n:=10)).1 (callsIn_of_wp_marks Tryz.func132 rfl trivial ?_ rfl)
 simp only[Tryz.ntmps132,List.size_toArray,List.length_cons,List.length_nil,Nat.reduceAdd,Nat.reduceSub,Array.replicate_succ,Array.replicate_zero,List.push_toArray,List.append_toArray,List.nil_append,List.cons_append]
 gi_wp2_with (refine⟨trivial,?_⟩;gi_at_call 174;refine(callsIn_wide.2 (b1h _ _ _)).mono ?_;rintro e w2 ⟨rfl,rfl⟩)
 try rw[hW0]
 clear hW0
 refine a1w (gf:=207) (lb := #[.pointer (some ⟨w.heap.size+1,0,none⟩),.pointer (some ⟨w.heap.size+1+1,0,none⟩)]) rfl (enters_of Tryz.func207 (by kernel_rfl) rfl)
  (b3u w p ss HD.out i (w.heap.size+1) (w.heap.size+1+1) (fun b o=>b=W0.heap.size+1∨(b=w.heap.size∨(W0.heap.size≤b∧∃cur,o = .cells cur 9 (0,0)))) W0 HB0.out B3.out B4.out (fun b o hb=>by have:=HSZ.out;omega) (fun o hb=>by have:=HSZ.out;omega) (fun o hb=>by have:=HSZ.out;omega))
  (fun b o h=>by
   have:=HSZ.out
   rcases h with h|⟨_,cur,rfl⟩
   ·exact Or.inl (by omega)
   ·exact Or.inr b9h) a6k (fun _=>rfl)
  (fun pre W=>∃q n c,NmsI w W0.heap.size ss pre q n c W)
  (fun c pre W=>False)
  (fun s A B ⟨q,n,c,h⟩ hc=>⟨q,n,c,h.calm hwz hc⟩)
  (fun c s A B h hc=>h)
  ⟨none,0,0,B0.out,a2q _ _ _ _,rfl,fun k hk=>by simp[Value.ownBlock] at hk,HB0.out⟩
  (fun pre k a' W=>(∃q n c,NmsI w W0.heap.size ss pre q n c W)∧∃Bx,AtE W Bx (entAt ss (k:Int))∧a'={ tmps := #[.pointer p,.int .i64 i,undef,undef,.slice none 0 0,.pointer (some ⟨w.heap.size,0,none⟩),undef,.pointer (some ⟨Bx,0,none⟩),.pointer p,.int .i64 i,.func (.func 207) #[] #[.pointer (some ⟨w.heap.size+1,0,none⟩),.pointer (some ⟨w.heap.size+1+1,0,none⟩)],.int .i64 (k:Int),aggE (entAt ss (k:Int)),undef,undef,undef,undef,undef,undef,undef,undef,undef],defers:=[] })
  (fun s k a' A B h hc=>by
   obtain⟨⟨q,n,c,h1⟩,Bx,h2,h3⟩:=h
   exact⟨⟨q,n,c,h1.calm hwz hc⟩,Bx,hc.block _ _ h2 (Or.inr rfl),h3⟩)
  ?assign ?body ?done ?stop
 case assign =>
  rintro l pre k W hI hsz _
  generalize entAt ss (k:Int)=x
  obtain⟨u,pa,xn,tg⟩:=x
  have HI:=ι hI
  clear hI
  gi_wp2
  have hb:=a0a (Below.refl W.heap.size W) (.cells #[.bool u,.int .i64 pa,.string xn,.int .i64 tg] 170)
  obtain⟨q,n,c,hI⟩:=HI.out
  exact⟨⟨⟨q,n,c,hI.calm hwz (rng.Calm.of_below hb)⟩,W.heap.size,a2t W ⟨u,pa,xn,tg⟩,rfl⟩,Turn.of_below hb⟩
 case body =>
  rintro l pre k a' W ⟨⟨q,n,c,hI⟩,Bx,hX,rfl⟩ hsz hsp
  have HI:=ι hI
  have hl24:pre.length+1≤24:=by
   have h1:=hsp.length_le
   have h2:=b7u (inDir ss i) 24
   rw[List.length_append] at h1
   simp only[List.length_cons,List.length_nil] at h1
   omega
  have hn24:n+1≤24:=by rw[hI.len];exact hl24
  have b0:=hI.box.cell
  have f0:=hI.box.frozen
  have x2:=hX.cell2
  obtain⟨g,hg⟩:∃g,(entAt ss (k:Int)).name=g:=⟨_,rfl⟩
  have HG:=ι hg
  rw[hg] at x2
  generalize aggE (entAt ss (k:Int))=ax
  have hlow:∀k,(Value.slice q n c).ownBlock=some k→k≠w.heap.size:=fun k hk e=>by have:=hI.low k hk;have:=HSZ.out;omega
  clear hI hsp hg hX
  gi_wp2_with (first|(refine a2b rfl ?_;refine a0g b3a (by decide) rfl (.tmp 15) rfl [.string g] rfl rfl ?_;refine a1f ?_)|(gi_at_builtin;refine a2b rfl ?_;refine a3c b3a rfl (.tmp 13) (.tmp 16) rfl _ n _ rfl (HI.out.own.alloc _) _ 1 [.string g] rfl (a0p _ _ _ _ rfl) (fun u hu=>by rw[List.mem_singleton.1 hu];rfl) (by omega) ?_;intro pa ca wa hoa hta hla;have hB8:=b3q (HI.out.box.alloc (.cells [Value.string g].toArray 9)) hta (fun e=>hlow _ e rfl);have c8a:=hB8.cell;have f8a:=hB8.frozen;have HOA:=ι hoa;have HTA:=ι hta;have HLA:=ι hla;have HB8:=ι hB8;clear hoa hta hla hB8;refine a1f ?_))
  have hWs:=HI.out.below.size
  have hz:=HSZ.out
  have ht:dsk.Touch (fun k=>(Value.slice q n c).ownBlock=some k∨k=w.heap.size) W (wa.setCell ⟨w.heap.size,0,none⟩ (.slice pa (n+1) ca)) :=
   dsk.Touch.setCell (S:=fun k=>(Value.slice q n c).ownBlock=some k∨k=w.heap.size) (((dsk.Touch.alloc (dsk.Touch.refl _ W) _).trans HTA.out).mono (fun i hi=>Or.inl hi)) ⟨w.heap.size,0,none⟩ (Or.inr rfl) _
  have hlow2:∀k,(Value.slice pa (n+1) ca).ownBlock=some k→W0.heap.size≤k:=fun k hk=>by
   rcases HLA.out k hk with h|h
   ·exact HI.out.low k h
   ·have:=h.1
    rw[World.size_alloc] at this
    omega
  have hnm:strV (named ss (pre++[k]))=strV (named ss pre)++[.string g]:=by
   rw[named,named,List.map_append,strV,strV,List.map_append,List.map_singleton,HG.out];rfl
  refine⟨⟨pa,n+1,ca,HB8.out.set _,?_,by rw[List.length_append,← HI.out.len];rfl,hlow2,HI.out.below.trans (ht.below hWs fun k hk => ?_)⟩,Turn.of_touch' ht fun k o hko hk => ?_⟩
  ·rw[hnm]
   exact dsk.a0o (S:=fun k=>W0.heap.size≤k) HOA.out hlow2 (dsk.Keeps.set (fun k hk=>by omega) _)
  ·rcases hk with hk|rfl
   ·have:=HI.out.low k hk;omega
   ·exact Nat.le_refl _
  ·rcases hk with hk|rfl
   ·obtain⟨cur,hc⟩:=d5i HI.out.own hk
    rw[hko] at hc
    exact Or.inr ⟨HI.out.low k hk,cur,Option.some.inj hc⟩
   ·exact Or.inl rfl
 case done =>
  rintro D ys W hD rfl ⟨q,n,c,hI⟩ hK
  have HI:=ι hI
  have b0:=hI.box.cell
  have hn24:n≤24:=by rw[hI.len];exact b7u _ _
  have HLS:=ι (c5w ss i)
  have hown:=hI.own
  rw[d3e] at hown
  have HZ:Hid (bytesL (named ss (those (inDir ss i) 24))=(named ss (those (inDir ss i) 24)).map fun x=>x.data.toList):=ι rfl
  rw[← HZ.out] at hown
  generalize bytesL (named ss (those (inDir ss i) 24))=zs at *
  have hzl:zs.length=n:=by
   have:=hown.1
   simpa using this
  have HS:=ι (csort q n c 0 zs W (by omega) hown)
  have HNN:=ι (d2c hown)
  have hlow:∀k,(Value.slice q n c).ownBlock=some k→W0.heap.size≤k:=hI.low
  have hnd:∀(V:World) (cs:List Value),V.heap[D]? = some (.deferred (some []))→rows.Own V 0 9 1 (.slice q n c) n cs→¬(Value.slice q n c).ownBlock=some D:=fun V cs hV ho hk=>by
   obtain⟨cur,hc⟩:=d5i ho hk
   rw[hV] at hc;cases hc
  have HND:=ι hnd
  have HOWN:=ι hown
  have HLOW:=ι hlow
  clear hI hown HZ hnd hlow
  gi_wp2_with (first|(refine⟨trivial,?_⟩;gi_at_call 175;refine(callsIn_wide.2 HS.out).mono ?_;rintro e w5 ⟨rfl,ho5,ht5⟩;have HO5:=ι ho5;have HT5:=ι ht5;have hb5:=b3q HI.out.box ht5 (fun e=>by have:=HLOW.out _ e;have:=HSZ.out;omega);have c5:=hb5.cell;clear ho5 ht5 hb5)|(refine⟨trivial,?_⟩;gi_at_call 176;refine(callsIn_wide.2 (ccompact q n c 0 _ w5 (by omega) HO5.out)).mono ?_;rintro e w6 ⟨rfl,ho6,ht6⟩;have HO6:=ι ho6;have HT6:=ι ht6;clear ho6 ht6))
  have hK5:w5.heap[D]? = some (.deferred (some [])):=(HT5.out.block D (Array.getElem?_eq_some_iff.1 hK).1 (HND.out W _ hK HOWN.out)).trans hK
  have hK6:w6.heap[D]? = some (.deferred (some [])):=(HT6.out.block D (Array.getElem?_eq_some_iff.1 hK5).1 (HND.out w5 _ hK5 HO5.out)).trans hK5
  refine⟨by simp,.inl ⟨_,_,rfl,run_takeDeferred hK6,?_⟩⟩
  obtain⟨us,ho⟩:=HO6.out
  have ho2:=c2h ho (rng.Calm.putObj (B:=0) (.deferred none) (Nat.zero_le _) hK6 rfl)
  have hlen:(risen zs).length≤n:=by rw[← hzl];exact d1c zs
  have hrd:=d3h ho2 hlen HNN.out
  rw[List.map_append,List.take_left' (by rw[List.length_map];rfl),show Lib.compact (zs.mergeSort fun x y=>decide (x≤y))=risen zs from rfl,← d2j] at hrd
  have hb:=HI.out.below.trans ((HT5.out.below HI.out.below.size fun k hk=>by have:=HLOW.out k hk;omega).trans (HT6.out.below (Nat.le_trans HI.out.below.size HT5.out.size) fun k hk=>by have:=HLOW.out k hk;omega))
  exact⟨_,results_tmp rfl _ _ _,_,q,_,c,HLS.out,rfl,by rw[strsL,List.length_map],hrd,hb.grown (grownBy_putObj' _ D (.deferred none)) hb.size (fun k e=>by cases e;omega)⟩
 case stop =>
  rintro D c pre W hD hp h hK
  exact h.elim
end lk
namespace fs
set_option maxRecDepth 100000
open Go.ChangeShapes Go.WideShapes Go.ChangeAt Go.RowKit
open rows
open sec
open dsk (wf64 a0c grow St CA)
open ly
open pa
open lk
open al
def FR(w:World)(g:Nat)(d:Value):Prop:=w.heap[g]? = some (.cells #[.pointer (some ⟨g,0,none⟩),d] 92 (0,0))
theorem FR.lt{w:World}{g:Nat}{d:Value}(h:FR w g d):g<w.heap.size:=(Array.getElem?_eq_some_iff.1 h).1
theorem FR.later{w w':World}{g:Nat}{d:Value}(h:FR w g d)(hb:Below w.heap.size w w'):FR w' g d:=(hb.block g h.lt).trans h
theorem FR.touch{S:Nat→Prop}{w w':World}{g:Nat}{d:Value}(h:FR w g d)(ht:dsk.Touch S w w')(hg:¬S g):FR w' g d:=(ht.block g h.lt hg).trans h
theorem FR.self{w:World}{g:Nat}{d:Value}(h:FR w g d):w.cell? ⟨g,0,none⟩=some (.pointer (some ⟨g,0,none⟩)):=a0c h 0 _ rfl
theorem FR.disk{w:World}{g:Nat}{d:Value}(h:FR w g d):w.cell? ⟨g,1,none⟩=some d:=a0c h 1 _ rfl
structure FK (w:World) (g:Nat) (d:Value) (ss:List (List Int)):Prop where
 row:FR w g d
 dk:Dk w d ss
theorem FK.later{w w':World}{g:Nat}{d:Value}{ss:List (List Int)}(h:FK w g d ss)(hb:Below w.heap.size w w'):FK w' g d ss:=⟨h.row.later hb,h.dk.later hb⟩
structure FsAt (w:World) (G:Nat→Prop) (g:Nat) (d:Value) (st:St):Prop where
 row:FR w g d
 code:CA w G d st
 apart:¬G g
theorem FsAt.later{w w':World}{G:Nat→Prop}{g:Nat}{d:Value}{st:St}(h:FsAt w G g d st)(hb:Below w.heap.size w w'):FsAt w' G g d st:=⟨h.row.later hb,lk.CA.later' h.code hb,h.apart⟩
theorem FsAt.known{w:World}{G:Nat→Prop}{g:Nat}{d:Value}{st:St}{k:Nat}(h:FsAt w G g d st)(hg:st.good k)(hk:k≤900):FK w g d (nowL st) :=
 ⟨h.row,Or.inr ⟨G,st,h.code,hg.fine hk,(a6r st fun x hx=>(hg.ws x hx).2).symm⟩⟩
def PDone(G:Nat→Prop)(g:Nat)(d:Value)(w:World)(r:Int×St)(e:Ending)(w':World):Prop:=e = .returned (.int .i64 r.1)∧FsAt w' (grow G w w') g d r.2∧dsk.Touch G w w'
theorem a8d{w:World}{G G':Nat→Prop}{g:Nat}{d:Value}{st:St}(h:FsAt w G g d st)(hG:∀b,G b→G' b)(hg:¬G' g):FsAt w G' g d st:=by
 obtain⟨h1,⟨z,gg,vs,vw,vn,vl,vf,hd,h2⟩,h3⟩:=h
 exact⟨h1,⟨z,gg,vs,vw,vn,vl,vf,hd,h2.wider hG fun _ _=>rfl⟩,hg⟩
theorem a1x{G:Nat→Prop}{g:Nat}{d:Value}{w w1 w':World}{r:Int×St}{e:Ending}(hg:g<w.heap.size)(hG:¬G g)(hb:Below w.heap.size w w1)(h:PDone G g d w1 r e w'):PDone G g d w r e w':=by
 obtain⟨h1,h2,h3⟩:=h
 refine⟨h1,a8d h2 (fun b hb' => ?_) (fun hh => ?_),(dsk.Touch.of_below hb).trans h3⟩
 ·rcases hb' with h|h
  ·exact Or.inl h
  ·exact Or.inr ⟨Nat.le_trans hb.size h.1,h.2⟩
 ·rcases hh with h|h
  ·exact hG h
  ·omega
theorem a0h{G:Nat→Prop}{g:Nat}{d:Value}{w w1:World}{st:St}{x:Int}(h:FsAt w G g d st)(hb:Below w.heap.size w w1):PDone G g d w (x,st) (.returned (.int .i64 x)) w1:=by
 have hg:=h.row.lt
 exact⟨rfl,a8d (h.later hb) (fun b hb=>Or.inl hb) (fun hh=>by
  rcases hh with h1|h1
  ·exact h.apart h1
  ·omega),dsk.Touch.of_below hb⟩
theorem b9a:Tryz.prog.underlying 26=some (.pointer 92):=by kernel_rfl
theorem info_fs:(Tryz.prog.info? 92).map (·.size)=some 2:=by kernel_rfl
theorem c8g(g:Nat)(w:World):(binOp .eql 26 (.pointer (some ⟨g,0,none⟩)) (.pointer (some ⟨g,0,none⟩))).run Tryz.prog w = .ok (.bool true) w:=by
 cases hq:Tryz.prog.info? 92 with
 | none=>have:=info_fs;simp[hq] at this
 | some q=>exact run_eql_ptr_same w _ b9a hq
theorem d2k(g:Nat)(w:World):(binOp .eql 26 (.pointer none) (.pointer (some ⟨g,0,none⟩))).run Tryz.prog w = .ok (.bool false) w:=by
 have h:∀d:Nat,(Op.equalIn (d+1) 26 (.pointer none) (.pointer (some ⟨g,0,none⟩))).run Tryz.prog w = .ok false w:=fun d=>by
  simp[Op.equalIn,run_underlying b9a]
 simp only[binOp]
 simp[Op.equal,Op.maxDepth,h 9999]
theorem fmade(g:Nat)(w:World)(h:w.cell? ⟨g,0,none⟩=some (.pointer (some ⟨g,0,none⟩))) :
  Calls Tryz.prog 47 #[.pointer (some ⟨g,0,none⟩)] w fun e w'=>e = .returned (.bool true)∧w=w':=by
 have q1:=c8g g
 have q2:=d2k g
 go_enter Tryz.func47,Tryz.ntmps47
 go_wp2
 go_ret
 exact⟨rfl,rfl⟩
theorem fdisk(g:Nat)(d:Value)(w:World)(h:FR w g d) :
  Calls Tryz.prog 16 #[.pointer (some ⟨g,0,none⟩)] w fun e w'=>e = .returned d∧w'=w:=by
 have HM:=ι (fmade g w h.self)
 have c1:=h.disk
 clear h
 go_enter Tryz.func16,Tryz.ntmps16
 go_wp2_with (go_at_call 47;refine HM.out.mono ?_;rintro e w0 ⟨rfl,rfl⟩)
 go_ret
 exact⟨rfl,rfl⟩
theorem fsector(b:Int)(hb : -1000≤b∧b≤1000)(w:World):Calls Tryz.prog 84 #[.int .i64 b] w fun e w'=>e = .returned (.int .i64 (40+b))∧w=w':=by
 have h1:IntKind.i64.wrap (41+b)=41+b:=IntWalk.i64_in _ (by omega)
 have h2:IntKind.i64.wrap (41+b-1)=40+b:=by rw[show 41+b-1=40+b by omega];exact IntWalk.i64_in _ (by omega)
 go_enter Tryz.func84,Tryz.ntmps84
 go_wp2
 go_ret
 exact⟨by simp,rfl⟩
theorem frequired(m:Nat)(hm:m≤1000)(w:World):Calls Tryz.prog 37 #[.int .i64 (m:Int)] w fun e w'=>e = .returned (.int .i64 (need m:Int))∧w=w':=by
 have HN:Hid (((m:Int)+32-1) / 32=(need m:Int)):=ι (by unfold need;omega)
 go_enter Tryz.func37,Tryz.ntmps37
 go_wp2
 go_ret
 exact⟨by simp[HN.out],rfl⟩
theorem fdepth(s:ByteArray)(w:World)(hm:Mx w)(hsz:s.size≤100000):Calls Tryz.prog 130 #[.string s] w (Rt w (.int .i64 ((nms (bys s)).length:Int))):=by
 have HS:=ι (b5u s w hm hsz)
 generalize errS (bys s)=er at *
 generalize nms (bys s)=l at *
 clear hm hsz
 go_enter Tryz.func130,Tryz.ntmps130
 go_wp2_with (go_at_call 13;refine HS.out.mono ?_;rintro e w1 ⟨p,n,c,rfl,hn,hr,hb⟩;have B1:=ι hb;have HN:=ι hn;clear hb hr hn)
 go_ret
 exact⟨by rw[← HN.out];rfl,B1.out⟩
theorem fisfolder(w:World)(g:Nat)(d:Value)(ss:List (List Int))(i:Int)(h:FK w g d ss)(hi:wf64 i):Calls Tryz.prog 129 #[.pointer (some ⟨g,0,none⟩),.int .i64 i] w (Rt w (.bool (decide ((inoAt ss i).kind=2)))):=by
 have HI:=ι (a4a w d ss i h.dk hi)
 have c1:=h.row.disk
 have hf1:=fieldI0 (inoAt ss i) (a0q h.dk.secs.1 i)
 obtain⟨kd,hkd⟩:∃kd,(inoAt ss i).kind=kd:=⟨_,rfl⟩
 rw[hkd] at hf1 ⊢
 generalize aggI (inoAt ss i)=yv at *
 clear hkd h hi
 go_enter Tryz.func129,Tryz.ntmps129
 go_wp2_with (go_at_call 83;refine HI.out.mono ?_;rintro e w1 ⟨rfl,hb⟩;have B1:=ι hb;clear hb)
 go_ret
 exact⟨by congr 2,B1.out⟩
end fs
namespace fs
set_option maxRecDepth 100000
open Go.ChangeShapes Go.WideShapes Go.ChangeAt Go.RowKit
open rows
open sec
open dsk (a0c a0d a0e size_alloc Wr Wr.ok Wr.c Wr.c_len w0 a5d a1a a7l)
open ly
open pa
open lk
open al
def stC(x:Wr)(b:Bool):List Value:=x.c++[.bool b]
abbrev aggT(x:Wr)(b:Bool):Value := .agg (stC x b).toArray
def AtSt(w:World)(g:Nat)(x:Wr)(b:Bool):Prop:=w.heap[g]? = some (.cells (stC x b).toArray 187 (0,0))
theorem a1c{x:Wr}{b:Bool}(h:Sec x.s):(stC x b).length=37:=by simp[stC,Wr.c_len h]
theorem b5p(x:Wr)(b:Bool):∀u∈stC x b,u.oneCell'=true:=fun u hu=>by
 rcases List.mem_append.1 hu with hu|hu
 ·exact a7l x u hu
 ·rw[List.mem_singleton.1 hu];rfl
theorem AtSt.lt{w:World}{g:Nat}{x:Wr}{b:Bool}(h:AtSt w g x b):g<w.heap.size:=(Array.getElem?_eq_some_iff.1 h).1
theorem AtSt.later{w w':World}{g:Nat}{x:Wr}{b:Bool}(h:AtSt w g x b)(hb:Below w.heap.size w w'):AtSt w' g x b:=(hb.block g h.lt).trans h
theorem AtSt.range{w:World}{g:Nat}{x:Wr}{b:Bool}(h:AtSt w g x b):w.rangeAt g 0 (stC x b):=by
 have:=World.rangeAt_of_block h 0 (stC x b).toArray.size
 simpa using this
theorem b8p:Tryz.prog.underlying 187=some (.struct (Tryz.prog.fieldsOf 187)):=by kernel_rfl
theorem zero_st:(Tryz.prog.info? 187).map (·.zero)=some (some (.agg (stC w0 false).toArray)):=by kernel_rfl
theorem c7t:(Tryz.prog.fieldsOf 187).toList.mapM (fun f=>(Tryz.prog.info? f.type).map fun i=>(f.offset,i.size))=some [(0,36),(36,1)]:=by kernel_rfl
theorem a8u:(Tryz.prog.info? 187).map (·.size)=some 37:=by kernel_rfl
theorem d4r(x:Wr)(h:Sec x.s):Tryz.prog.built 187 [(0,.agg x.c.toArray)]=some (stC x false).toArray:=by
 rw[a5d _ _ _ _ b8p zero_st c7t]
 rw[a1a _ _ 0 0 36 _ x.c _ rfl rfl (Wr.c_len h) (by rw[a1c a0i];omega)]
 have e:(stC w0 false).take 0++x.c++(stC w0 false).drop (0+36)=stC x false:=by
  rw[List.take_zero,List.nil_append,Nat.zero_add]
  show x.c++(w0.c++[Value.bool false]).drop 36=stC x false
  rw[List.drop_left' (Wr.c_len a0i)]
  rfl
 rw[e]
 rfl
theorem a2e{ops:Array Oper}{rest:List Oper}{o:Oper}{a:Act}{w:World}{Q:Exit→Act→World→Prop}(hgd:o.guard=none)(x y:Operand)(ho:o.op = .store 187 x y)(hd:o.dst=none)
  (g:Nat) (z old:Wr) (b c:Bool) (hx:a.eval x = .pointer (some ⟨g,0,none⟩)) (hy:a.eval y=aggT z b) (hs:Sec z.s) (hold:Sec old.s) (hg:AtSt w g old c)
  (h:∀w',AtSt w' g z b→Below g w w'→wpList Tryz.prog ops Q rest a w'):wpList Tryz.prog ops Q (o::rest) a w:=by
 refine wpList_store_row hgd 187 x y ho g (stC z b).toArray hx hy 187 _ hg (by rw[a8u];simp[a1c hs]) (by simp[a1c hs,a1c hold]) (by simp only[List.all_toArray];exact List.all_eq_true.2 (b5p z b)) ?_
 rw[hd]
 exact h _ (setRow_heap w g _ _ _ _ hg) ((Below.refl g w).trans ⟨rfl,rfl,rfl,by simp[World.setRow],fun k hk=>setRow_other w g k _ (by omega)⟩)
theorem b5m{w:World}{ops:Array Oper}{o:Oper}{a:Act}{K:Act→World→Prop}{Q:Exit→Act→World→Prop}{F:Prop}(hw:Region.wanted o (yielded ops a.tmps)=true)(x y:Operand)(ho:o.op = .store 187 x y)
  (g:Nat) (hx:a.eval x = .pointer (some ⟨g,0,none⟩)) (z old:Wr) (b c:Bool) (hy:a.eval y=aggT z b) (hs:Sec z.s) (hold:Sec old.s) (hg:AtSt w g old c)
  (h:∀w',AtSt w' g z b→Below g w w'→dsk.Touch (fun k=>k=g) w w'→K (a.put o.dst undef) w'):if Region.wanted o (yielded ops a.tmps)=true then Oper.wp Tryz.prog o a w K Q else F:=by
 rw[if_pos hw]
 refine wp_store_row 187 x y ho g (stC z b).toArray hx hy 187 _ hg (by rw[a8u];simp[a1c hs]) (by simp[a1c hs,a1c hold]) (by simp only[List.all_toArray];exact List.all_eq_true.2 (b5p z b)) ?_
 exact h _ (setRow_heap w g _ _ _ _ hg) ((Below.refl g w).trans ⟨rfl,rfl,rfl,by simp[World.setRow],fun k hk=>setRow_other w g k _ (by omega)⟩) (dsk.a3f w g _)
theorem load_st{ops:Array Oper}{rest:List Oper}{o:Oper}{a:Act}{w:World}{Q:Exit→Act→World→Prop}(hgd:o.guard=none)(p:Operand)(ho:o.op = .load 187 p)
  (g:Nat) (hp:a.eval p = .pointer (some ⟨g,0,none⟩)) (x:Wr) (b:Bool) (hs:Sec x.s) (hg:AtSt w g x b)
  (h:wpList Tryz.prog ops Q rest (a.put o.dst (aggT x b)) w):wpList Tryz.prog ops Q (o::rest) a w :=
 wpList_load_row hgd 187 p ho g hp 187 _ _ _ hg b8p rfl (by rw[a8u];simp[a1c hs]) h
theorem ld_st{ops:Array Oper}{S:World→Prop}{op:Oper}{a:Act}(hw:Region.wanted op (yielded ops a.tmps)=true)(x:Operand)(ho:op.op = .load 187 x)
  (g o:Nat) (hx:a.eval x = .pointer (some ⟨g,o,none⟩)) (y:Wr) (b:Bool) (hs:Sec y.s) (hS:∀w,S w→w.rangeAt g o (stC y b)):YieldsIf Tryz.prog ops S op (aggT y b) a :=
 yieldsIf_load_mid hw _ x ho g o hx (stC y b) _ hS b8p rfl (by rw[a8u,a1c hs])
theorem a9h{fn:Func}{p:Tmp}{R:Ending→World→Prop}{a:Act}{w:World}(h:fn.results = #[.cell p 187])(g:Nat)(x:Wr)(b:Bool)(hp:a.tmps.getD p undef = .pointer (some ⟨g,0,none⟩))(hx:Sec x.s)(hg:AtSt w g x b)
  (hd:a.defers=[]) (hR:R (.returned (aggT x b)) w):bodyPost Tryz.prog fn R .ret a w :=
 bodyPost_ret (results_cell_row h a.tmps w g _ _ _ _ hp hg b8p rfl (by rw[a8u];simp[a1c hx])) hd hR
theorem a1z(w:World):AtSt (w.alloc (.cells #[Value.int IntKind.i64 0,Value.int IntKind.u8 0,Value.int IntKind.u8 0,Value.int IntKind.u8 0,Value.int IntKind.u8 0,Value.int IntKind.u8 0,Value.int IntKind.u8 0,Value.int IntKind.u8 0,Value.int IntKind.u8 0,Value.int IntKind.u8 0,Value.int IntKind.u8 0,Value.int IntKind.u8 0,Value.int IntKind.u8 0,Value.int IntKind.u8 0,Value.int IntKind.u8 0,Value.int IntKind.u8 0,Value.int IntKind.u8 0,Value.int IntKind.u8 0,Value.int IntKind.u8 0,Value.int IntKind.u8 0,Value.int IntKind.u8 0,Value.int IntKind.u8 0,Value.int IntKind.u8 0,Value.int IntKind.u8 0,Value.int IntKind.u8 0,Value.int IntKind.u8 0,Value.int IntKind.u8 0,Value.int IntKind.u8 0,Value.int IntKind.u8 0,Value.int IntKind.u8 0,Value.int IntKind.u8 0,Value.int IntKind.u8 0,Value.int IntKind.u8 0,Value.int IntKind.i64 0,Value.int IntKind.i64 0,Value.int IntKind.i64 0,Value.bool false] 187)) w.heap.size w0 false:=heap_alloc_new _ _
theorem AtSt.mark{w:World}{g:Nat}{x:Wr}{b:Bool}(hs:Sec x.s)(h:AtSt w g x b)(c:Bool):AtSt (w.setCell ⟨g,36,none⟩ (.bool c)) g x c:=by
 have h2:=a0e (i:=36) h (.bool c)
 have e:(stC x b).toArray.setIfInBounds 36 (.bool c)=(stC x c).toArray:=by
  rw[List.setIfInBounds_toArray]
  congr 1
  show (x.c++[Value.bool b]).set 36 (.bool c)=x.c++[Value.bool c]
  rw[List.set_append_right _ _ (by rw[Wr.c_len hs];omega),Wr.c_len hs]
  rfl
 rw[e] at h2
 exact h2
theorem AtSt.flag{w:World}{g:Nat}{x:Wr}{b:Bool}(hs:Sec x.s)(h:AtSt w g x b):w.cell? ⟨g,36,none⟩=some (.bool b):=a0c h 36 _ (by
 rw[List.getElem?_toArray]
 show (x.c++[Value.bool b])[36]? = _
 rw[List.getElem?_append_right (by rw[Wr.c_len hs];omega),Wr.c_len hs]
 rfl)
set_option maxRecDepth 100000 in
set_option maxHeartbeats 1600000 in
theorem fstepTo(p:Int)(s:List Int)(hs:Sec s)(k i:Int)(w:World):Calls Tryz.prog 168 #[.int .i64 p,agg s,.int .i64 k,.int .i64 i] w (Rt w (aggT ⟨p,s,k,i,0⟩ false)):=by
 have HS:=ι hs
 have a0:At ((w.alloc (.cells (u8s s).toArray 65)).alloc (.cells #[Value.int IntKind.i64 0,Value.int IntKind.u8 0,Value.int IntKind.u8 0,Value.int IntKind.u8 0,Value.int IntKind.u8 0,Value.int IntKind.u8 0,Value.int IntKind.u8 0,Value.int IntKind.u8 0,Value.int IntKind.u8 0,Value.int IntKind.u8 0,Value.int IntKind.u8 0,Value.int IntKind.u8 0,Value.int IntKind.u8 0,Value.int IntKind.u8 0,Value.int IntKind.u8 0,Value.int IntKind.u8 0,Value.int IntKind.u8 0,Value.int IntKind.u8 0,Value.int IntKind.u8 0,Value.int IntKind.u8 0,Value.int IntKind.u8 0,Value.int IntKind.u8 0,Value.int IntKind.u8 0,Value.int IntKind.u8 0,Value.int IntKind.u8 0,Value.int IntKind.u8 0,Value.int IntKind.u8 0,Value.int IntKind.u8 0,Value.int IntKind.u8 0,Value.int IntKind.u8 0,Value.int IntKind.u8 0,Value.int IntKind.u8 0,Value.int IntKind.u8 0,Value.int IntKind.i64 0,Value.int IntKind.i64 0,Value.int IntKind.i64 0,Value.bool false] 187)) w.heap.size s:=(at_new w s).later (a0a (Below.refl _ _) _)
 have a2:=a1z (w.alloc (.cells (u8s s).toArray 65))
 rw[World.size_alloc] at a2
 have hbw:=a0a (a0a (Below.refl w.heap.size w) (.cells (u8s s).toArray 65)) (.cells #[Value.int IntKind.i64 0,Value.int IntKind.u8 0,Value.int IntKind.u8 0,Value.int IntKind.u8 0,Value.int IntKind.u8 0,Value.int IntKind.u8 0,Value.int IntKind.u8 0,Value.int IntKind.u8 0,Value.int IntKind.u8 0,Value.int IntKind.u8 0,Value.int IntKind.u8 0,Value.int IntKind.u8 0,Value.int IntKind.u8 0,Value.int IntKind.u8 0,Value.int IntKind.u8 0,Value.int IntKind.u8 0,Value.int IntKind.u8 0,Value.int IntKind.u8 0,Value.int IntKind.u8 0,Value.int IntKind.u8 0,Value.int IntKind.u8 0,Value.int IntKind.u8 0,Value.int IntKind.u8 0,Value.int IntKind.u8 0,Value.int IntKind.u8 0,Value.int IntKind.u8 0,Value.int IntKind.u8 0,Value.int IntKind.u8 0,Value.int IntKind.u8 0,Value.int IntKind.u8 0,Value.int IntKind.u8 0,Value.int IntKind.u8 0,Value.int IntKind.u8 0,Value.int IntKind.i64 0,Value.int IntKind.i64 0,Value.int IntKind.i64 0,Value.bool false] 187)
 obtain⟨W,hW⟩:∃W,(w.alloc (.cells (u8s s).toArray 65)).alloc (.cells #[Value.int IntKind.i64 0,Value.int IntKind.u8 0,Value.int IntKind.u8 0,Value.int IntKind.u8 0,Value.int IntKind.u8 0,Value.int IntKind.u8 0,Value.int IntKind.u8 0,Value.int IntKind.u8 0,Value.int IntKind.u8 0,Value.int IntKind.u8 0,Value.int IntKind.u8 0,Value.int IntKind.u8 0,Value.int IntKind.u8 0,Value.int IntKind.u8 0,Value.int IntKind.u8 0,Value.int IntKind.u8 0,Value.int IntKind.u8 0,Value.int IntKind.u8 0,Value.int IntKind.u8 0,Value.int IntKind.u8 0,Value.int IntKind.u8 0,Value.int IntKind.u8 0,Value.int IntKind.u8 0,Value.int IntKind.u8 0,Value.int IntKind.u8 0,Value.int IntKind.u8 0,Value.int IntKind.u8 0,Value.int IntKind.u8 0,Value.int IntKind.u8 0,Value.int IntKind.u8 0,Value.int IntKind.u8 0,Value.int IntKind.u8 0,Value.int IntKind.u8 0,Value.int IntKind.i64 0,Value.int IntKind.i64 0,Value.int IntKind.i64 0,Value.bool false] 187)=W:=⟨_,rfl⟩
 rw[hW] at hbw a0 a2
 have HB0:=ι hbw
 have A0:=ι a0
 have A2:=ι a2
 have HBW:=d0u p k i s hs
 have HXs:Sec (⟨p,s,k,i,0⟩:Wr).s:=hs
 generalize (⟨p,s,k,i,0⟩:Wr)=X at *
 have HBT:=ι (d4r X HXs)
 have HX:=ι HXs
 have HBW:=ι HBW
 clear hs hbw a0 a2 HXs
 go_enter Tryz.func168,Tryz.ntmps168
 go_upto_region 1 with fail
 try rw[hW]
 clear hW
 go_wp2_with (first|(refine a1v rfl (.tmp 5) rfl w.heap.size rfl s HS.out.1 A0.out ?_)|(refine wpList_buildTo rfl 103 #[(0,.tmp 9),(1,.tmp 10),(2,.tmp 13)] rfl (some 14) rfl X.c.toArray ?hb ?hk;(case hb=>(simp only[List.map_toArray,List.map_cons,List.map_nil];exact HBW.out)))|(refine wpList_buildTo rfl 187 #[(0,.tmp 14)] rfl (some 15) rfl (stC X false).toArray ?hb2 ?hk2;(case hb2=>(simp only[List.map_toArray,List.map_cons,List.map_nil];exact HBT.out)))|(refine a2e rfl (.tmp 8) (.tmp 15) rfl rfl (w.heap.size+1) X w0 false false rfl rfl HX.out a0i A2.out ?_;intro w5 hA hB;have X5:=ι hA;have B5:=ι (HB0.out.trans (hB.mono (show w.heap.size≤w.heap.size+1 by omega)));clear hA hB))
 exact a9h rfl (w.heap.size+1) X false rfl HX.out X5.out rfl ⟨rfl,B5.out⟩
set_option maxRecDepth 100000 in
set_option maxHeartbeats 1600000 in
theorem finodeStep(n:Int)(hn:0≤n∧n≤200)(x:Ino)(hx:x.ok)(w:World):Calls Tryz.prog 121 #[.int .i64 n,aggI x] w (Rt w (aggT (wIno n x) false)):=by
 have HI:=ι fun w=>b0z x hx w
 have HS:=ι (a2k hx.four)
 have H4:=ι hx.four
 have HT:=ι fun w'=>fstepTo (1+n) (inoV x) (a2k hx.four) 2 n w'
 change Hid (∀w',Calls _ _ _ w' fun e w''=>e = .returned (aggT (wIno n x) false)∧Below w'.heap.size w' w'') at HT
 have HX:=ι (show Sec (wIno n x).s from a2k hx.four)
 generalize wIno n x=X at *
 generalize inoV x=s at *
 generalize rightI x=rb at *
 have a0:AtI ((w.alloc (.cells x.c.toArray 75)).alloc (.cells #[Value.int IntKind.i64 0,Value.int IntKind.u8 0,Value.int IntKind.u8 0,Value.int IntKind.u8 0,Value.int IntKind.u8 0,Value.int IntKind.u8 0,Value.int IntKind.u8 0,Value.int IntKind.u8 0,Value.int IntKind.u8 0,Value.int IntKind.u8 0,Value.int IntKind.u8 0,Value.int IntKind.u8 0,Value.int IntKind.u8 0,Value.int IntKind.u8 0,Value.int IntKind.u8 0,Value.int IntKind.u8 0,Value.int IntKind.u8 0,Value.int IntKind.u8 0,Value.int IntKind.u8 0,Value.int IntKind.u8 0,Value.int IntKind.u8 0,Value.int IntKind.u8 0,Value.int IntKind.u8 0,Value.int IntKind.u8 0,Value.int IntKind.u8 0,Value.int IntKind.u8 0,Value.int IntKind.u8 0,Value.int IntKind.u8 0,Value.int IntKind.u8 0,Value.int IntKind.u8 0,Value.int IntKind.u8 0,Value.int IntKind.u8 0,Value.int IntKind.u8 0,Value.int IntKind.i64 0,Value.int IntKind.i64 0,Value.int IntKind.i64 0,Value.bool false] 187)) w.heap.size x:=(a5s w x).later (a0a (Below.refl _ _) _)
 have a2:=a1z (w.alloc (.cells x.c.toArray 75))
 rw[World.size_alloc] at a2
 have hbw:=a0a (a0a (Below.refl w.heap.size w) (.cells x.c.toArray 75)) (.cells #[Value.int IntKind.i64 0,Value.int IntKind.u8 0,Value.int IntKind.u8 0,Value.int IntKind.u8 0,Value.int IntKind.u8 0,Value.int IntKind.u8 0,Value.int IntKind.u8 0,Value.int IntKind.u8 0,Value.int IntKind.u8 0,Value.int IntKind.u8 0,Value.int IntKind.u8 0,Value.int IntKind.u8 0,Value.int IntKind.u8 0,Value.int IntKind.u8 0,Value.int IntKind.u8 0,Value.int IntKind.u8 0,Value.int IntKind.u8 0,Value.int IntKind.u8 0,Value.int IntKind.u8 0,Value.int IntKind.u8 0,Value.int IntKind.u8 0,Value.int IntKind.u8 0,Value.int IntKind.u8 0,Value.int IntKind.u8 0,Value.int IntKind.u8 0,Value.int IntKind.u8 0,Value.int IntKind.u8 0,Value.int IntKind.u8 0,Value.int IntKind.u8 0,Value.int IntKind.u8 0,Value.int IntKind.u8 0,Value.int IntKind.u8 0,Value.int IntKind.u8 0,Value.int IntKind.i64 0,Value.int IntKind.i64 0,Value.int IntKind.i64 0,Value.bool false] 187)
 obtain⟨W,hW⟩:∃W,(w.alloc (.cells x.c.toArray 75)).alloc (.cells #[Value.int IntKind.i64 0,Value.int IntKind.u8 0,Value.int IntKind.u8 0,Value.int IntKind.u8 0,Value.int IntKind.u8 0,Value.int IntKind.u8 0,Value.int IntKind.u8 0,Value.int IntKind.u8 0,Value.int IntKind.u8 0,Value.int IntKind.u8 0,Value.int IntKind.u8 0,Value.int IntKind.u8 0,Value.int IntKind.u8 0,Value.int IntKind.u8 0,Value.int IntKind.u8 0,Value.int IntKind.u8 0,Value.int IntKind.u8 0,Value.int IntKind.u8 0,Value.int IntKind.u8 0,Value.int IntKind.u8 0,Value.int IntKind.u8 0,Value.int IntKind.u8 0,Value.int IntKind.u8 0,Value.int IntKind.u8 0,Value.int IntKind.u8 0,Value.int IntKind.u8 0,Value.int IntKind.u8 0,Value.int IntKind.u8 0,Value.int IntKind.u8 0,Value.int IntKind.u8 0,Value.int IntKind.u8 0,Value.int IntKind.u8 0,Value.int IntKind.u8 0,Value.int IntKind.i64 0,Value.int IntKind.i64 0,Value.int IntKind.i64 0,Value.bool false] 187)=W:=⟨_,rfl⟩
 rw[hW] at hbw a0 a2
 have HB0:=ι hbw
 have A0:=ι a0
 have A2:=ι a2
 clear hx hbw a0 a2
 go_enter Tryz.func121,Tryz.ntmps121
 go_upto_region 1 with fail
 try rw[hW]
 clear hW
 go_wp2_with (first|(refine a0z rfl (.tmp 3) rfl w.heap.size rfl x H4.out A0.out ?_)|(go_at_call 165;refine(HI.out _).mono ?_;rintro e w1 ⟨rfl,hb⟩;have B1:=ι (a0b HB0.out hb);have X1:=ι (A2.out.later hb);clear hb)|(refine a0k rfl (.tmp 5) (.tmp 10) rfl rfl w1.heap.size s zero32 rfl rfl HS.out.1 (by decide) (a1n w1) ?_;intro w2 hA hB _;have hb:=(a0a (Below.refl _ w1) _).trans hB;have B2:=ι (a0b B1.out hb);have X2:=ι (X1.out.later hb);have S2:=ι hA;clear hA hB hb)|(refine a1v rfl (.tmp 5) rfl w1.heap.size rfl s HS.out.1 S2.out ?_)|(go_at_call 168;refine(HT.out _).mono ?_;rintro e w3 ⟨rfl,hb⟩;have B3:=ι (a0b B2.out hb);have X3:=ι (X2.out.later hb);clear hb)|(refine a2e rfl (.tmp 4) (.tmp 16) rfl rfl (w.heap.size+1) X w0 false false rfl rfl HX.out a0i X3.out ?_;intro w5 hA hB;have X5:=ι hA;have B5:=ι (B3.out.trans (hB.mono (show w.heap.size≤w.heap.size+1 by omega)));clear hA hB))
 exact a9h rfl (w.heap.size+1) X false rfl HX.out X5.out rfl ⟨rfl,B5.out⟩
theorem AtE.cell1{w:World}{g:Nat}{x:Ent}(h:AtE w g x):w.cell? ⟨g,1,none⟩=some (.int .i64 x.parent):=a0c h 1 _ rfl
set_option maxRecDepth 100000 in
set_option maxHeartbeats 1600000 in
theorem fentryStep(n:Int)(hn:0≤n∧n≤200)(x:Ent)(hx:x.ok)(w:World):Calls Tryz.prog 122 #[.int .i64 n,aggE x] w (Rt w (aggT (wEnt n x x.parent) false)):=by
 have HI:=ι fun w=>b1n x hx w
 have HS:=ι (a1i x)
 have HT:=ι fun w'=>fstepTo (17+n) (entV x) (a1i x) 3 x.parent w'
 change Hid (∀w',Calls _ _ _ w' fun e w''=>e = .returned (aggT (wEnt n x x.parent) false)∧Below w'.heap.size w' w'') at HT
 have HX:=ι (show Sec (wEnt n x x.parent).s from a1i x)
 generalize wEnt n x x.parent=X at *
 generalize entV x=s at *
 generalize rightE x=rb at *
 have a0:AtE ((w.alloc (.cells #[.bool x.used,.int .i64 x.parent,.string x.name,.int .i64 x.target] 170)).alloc (.cells #[Value.int IntKind.i64 0,Value.int IntKind.u8 0,Value.int IntKind.u8 0,Value.int IntKind.u8 0,Value.int IntKind.u8 0,Value.int IntKind.u8 0,Value.int IntKind.u8 0,Value.int IntKind.u8 0,Value.int IntKind.u8 0,Value.int IntKind.u8 0,Value.int IntKind.u8 0,Value.int IntKind.u8 0,Value.int IntKind.u8 0,Value.int IntKind.u8 0,Value.int IntKind.u8 0,Value.int IntKind.u8 0,Value.int IntKind.u8 0,Value.int IntKind.u8 0,Value.int IntKind.u8 0,Value.int IntKind.u8 0,Value.int IntKind.u8 0,Value.int IntKind.u8 0,Value.int IntKind.u8 0,Value.int IntKind.u8 0,Value.int IntKind.u8 0,Value.int IntKind.u8 0,Value.int IntKind.u8 0,Value.int IntKind.u8 0,Value.int IntKind.u8 0,Value.int IntKind.u8 0,Value.int IntKind.u8 0,Value.int IntKind.u8 0,Value.int IntKind.u8 0,Value.int IntKind.i64 0,Value.int IntKind.i64 0,Value.int IntKind.i64 0,Value.bool false] 187)) w.heap.size x:=(a2t w x).later (a0a (Below.refl _ _) _)
 have a2:=a1z (w.alloc (.cells #[.bool x.used,.int .i64 x.parent,.string x.name,.int .i64 x.target] 170))
 rw[World.size_alloc] at a2
 have hbw:=a0a (a0a (Below.refl w.heap.size w) (.cells #[.bool x.used,.int .i64 x.parent,.string x.name,.int .i64 x.target] 170)) (.cells #[Value.int IntKind.i64 0,Value.int IntKind.u8 0,Value.int IntKind.u8 0,Value.int IntKind.u8 0,Value.int IntKind.u8 0,Value.int IntKind.u8 0,Value.int IntKind.u8 0,Value.int IntKind.u8 0,Value.int IntKind.u8 0,Value.int IntKind.u8 0,Value.int IntKind.u8 0,Value.int IntKind.u8 0,Value.int IntKind.u8 0,Value.int IntKind.u8 0,Value.int IntKind.u8 0,Value.int IntKind.u8 0,Value.int IntKind.u8 0,Value.int IntKind.u8 0,Value.int IntKind.u8 0,Value.int IntKind.u8 0,Value.int IntKind.u8 0,Value.int IntKind.u8 0,Value.int IntKind.u8 0,Value.int IntKind.u8 0,Value.int IntKind.u8 0,Value.int IntKind.u8 0,Value.int IntKind.u8 0,Value.int IntKind.u8 0,Value.int IntKind.u8 0,Value.int IntKind.u8 0,Value.int IntKind.u8 0,Value.int IntKind.u8 0,Value.int IntKind.u8 0,Value.int IntKind.i64 0,Value.int IntKind.i64 0,Value.int IntKind.i64 0,Value.bool false] 187)
 obtain⟨W,hW⟩:∃W,(w.alloc (.cells #[.bool x.used,.int .i64 x.parent,.string x.name,.int .i64 x.target] 170)).alloc (.cells #[Value.int IntKind.i64 0,Value.int IntKind.u8 0,Value.int IntKind.u8 0,Value.int IntKind.u8 0,Value.int IntKind.u8 0,Value.int IntKind.u8 0,Value.int IntKind.u8 0,Value.int IntKind.u8 0,Value.int IntKind.u8 0,Value.int IntKind.u8 0,Value.int IntKind.u8 0,Value.int IntKind.u8 0,Value.int IntKind.u8 0,Value.int IntKind.u8 0,Value.int IntKind.u8 0,Value.int IntKind.u8 0,Value.int IntKind.u8 0,Value.int IntKind.u8 0,Value.int IntKind.u8 0,Value.int IntKind.u8 0,Value.int IntKind.u8 0,Value.int IntKind.u8 0,Value.int IntKind.u8 0,Value.int IntKind.u8 0,Value.int IntKind.u8 0,Value.int IntKind.u8 0,Value.int IntKind.u8 0,Value.int IntKind.u8 0,Value.int IntKind.u8 0,Value.int IntKind.u8 0,Value.int IntKind.u8 0,Value.int IntKind.u8 0,Value.int IntKind.u8 0,Value.int IntKind.i64 0,Value.int IntKind.i64 0,Value.int IntKind.i64 0,Value.bool false] 187)=W:=⟨_,rfl⟩
 rw[hW] at hbw a0 a2
 have HB0:=ι hbw
 have A0:=ι a0
 have A2:=ι a2
 clear hx hbw a0 a2
 go_enter Tryz.func122,Tryz.ntmps122
 go_upto_region 1 with fail
 try rw[hW]
 clear hW
 go_wp2_with (first|(refine a3n rfl (.tmp 3) rfl w.heap.size rfl x A0.out ?_)|(go_at_call 169;refine(HI.out _).mono ?_;rintro e w1 ⟨rfl,hb⟩;have B1:=ι (a0b HB0.out hb);have X1:=ι (A2.out.later hb);have E1:=ι (A0.out.later hb);clear hb)|(refine a0k rfl (.tmp 5) (.tmp 10) rfl rfl w1.heap.size s zero32 rfl rfl HS.out.1 (by decide) (a1n w1) ?_;intro w2 hA hB _;have hb:=(a0a (Below.refl _ w1) _).trans hB;have B2:=ι (a0b B1.out hb);have X2:=ι (X1.out.later hb);have c1:=AtE.cell1 (E1.out.later hb);have S2:=ι hA;clear hA hB hb)|(refine a1v rfl (.tmp 5) rfl w1.heap.size rfl s HS.out.1 S2.out ?_)|(go_at_call 168;refine(HT.out _).mono ?_;rintro e w3 ⟨rfl,hb⟩;have B3:=ι (a0b B2.out hb);have X3:=ι (X2.out.later hb);clear hb)|(refine a2e rfl (.tmp 4) (.tmp 17) rfl rfl (w.heap.size+1) X w0 false false rfl rfl HX.out a0i X3.out ?_;intro w5 hA hB;have X5:=ι hA;have B5:=ι (B3.out.trans (hB.mono (show w.heap.size≤w.heap.size+1 by omega)));clear hA hB))
 exact a9h rfl (w.heap.size+1) X false rfl HX.out X5.out rfl ⟨rfl,B5.out⟩
set_option maxRecDepth 100000 in
set_option maxHeartbeats 1600000 in
theorem fclearStep(n:Int)(hn:0≤n∧n≤200)(f:Int)(w:World):Calls Tryz.prog 133 #[.int .i64 n,.int .i64 f] w (Rt w (aggT (wEnt n ent0 f) false)):=by
 have HI:Hid (∀w,Calls Tryz.prog 169 #[.agg #[.bool false,.int .i64 0,.string { data := #[] },.int .i64 0]] w (Rt w (.tuple #[agg (entV ent0),.bool (rightE ent0)]))):=ι fun w=>b1n ent0 ent0_ok w
 have HS:=ι (a1i ent0)
 have HT:=ι fun w'=>fstepTo (17+n) (entV ent0) (a1i ent0) 3 f w'
 change Hid (∀w',Calls _ _ _ w' fun e w''=>e = .returned (aggT (wEnt n ent0 f) false)∧Below w'.heap.size w' w'') at HT
 have HX:=ι (show Sec (wEnt n ent0 f).s from a1i ent0)
 generalize wEnt n ent0 f=X at *
 generalize entV ent0=s at *
 generalize rightE ent0=rb at *
 have a2:=a1z w
 have hbw:=a0a (Below.refl w.heap.size w) (.cells #[Value.int IntKind.i64 0,Value.int IntKind.u8 0,Value.int IntKind.u8 0,Value.int IntKind.u8 0,Value.int IntKind.u8 0,Value.int IntKind.u8 0,Value.int IntKind.u8 0,Value.int IntKind.u8 0,Value.int IntKind.u8 0,Value.int IntKind.u8 0,Value.int IntKind.u8 0,Value.int IntKind.u8 0,Value.int IntKind.u8 0,Value.int IntKind.u8 0,Value.int IntKind.u8 0,Value.int IntKind.u8 0,Value.int IntKind.u8 0,Value.int IntKind.u8 0,Value.int IntKind.u8 0,Value.int IntKind.u8 0,Value.int IntKind.u8 0,Value.int IntKind.u8 0,Value.int IntKind.u8 0,Value.int IntKind.u8 0,Value.int IntKind.u8 0,Value.int IntKind.u8 0,Value.int IntKind.u8 0,Value.int IntKind.u8 0,Value.int IntKind.u8 0,Value.int IntKind.u8 0,Value.int IntKind.u8 0,Value.int IntKind.u8 0,Value.int IntKind.u8 0,Value.int IntKind.i64 0,Value.int IntKind.i64 0,Value.int IntKind.i64 0,Value.bool false] 187)
 obtain⟨W,hW⟩:∃W,w.alloc (.cells #[Value.int IntKind.i64 0,Value.int IntKind.u8 0,Value.int IntKind.u8 0,Value.int IntKind.u8 0,Value.int IntKind.u8 0,Value.int IntKind.u8 0,Value.int IntKind.u8 0,Value.int IntKind.u8 0,Value.int IntKind.u8 0,Value.int IntKind.u8 0,Value.int IntKind.u8 0,Value.int IntKind.u8 0,Value.int IntKind.u8 0,Value.int IntKind.u8 0,Value.int IntKind.u8 0,Value.int IntKind.u8 0,Value.int IntKind.u8 0,Value.int IntKind.u8 0,Value.int IntKind.u8 0,Value.int IntKind.u8 0,Value.int IntKind.u8 0,Value.int IntKind.u8 0,Value.int IntKind.u8 0,Value.int IntKind.u8 0,Value.int IntKind.u8 0,Value.int IntKind.u8 0,Value.int IntKind.u8 0,Value.int IntKind.u8 0,Value.int IntKind.u8 0,Value.int IntKind.u8 0,Value.int IntKind.u8 0,Value.int IntKind.u8 0,Value.int IntKind.u8 0,Value.int IntKind.i64 0,Value.int IntKind.i64 0,Value.int IntKind.i64 0,Value.bool false] 187)=W:=⟨_,rfl⟩
 rw[hW] at hbw a2
 have HB0:=ι hbw
 have A2:=ι a2
 clear hbw a2
 go_enter Tryz.func133,Tryz.ntmps133
 go_upto_region 1 with fail
 try rw[hW]
 clear hW
 go_wp2_with (first|(go_at_call 169;refine(HI.out _).mono ?_;rintro e w1 ⟨rfl,hb⟩;have B1:=ι (a0b HB0.out hb);have X1:=ι (A2.out.later hb);clear hb)|(refine a0k rfl (.tmp 5) (.tmp 10) rfl rfl w1.heap.size s zero32 rfl rfl HS.out.1 (by decide) (a1n w1) ?_;intro w2 hA hB _;have hb:=(a0a (Below.refl _ w1) _).trans hB;have B2:=ι (a0b B1.out hb);have X2:=ι (X1.out.later hb);have S2:=ι hA;clear hA hB hb)|(refine a1v rfl (.tmp 5) rfl w1.heap.size rfl s HS.out.1 S2.out ?_)|(go_at_call 168;refine(HT.out _).mono ?_;rintro e w3 ⟨rfl,hb⟩;have B3:=ι (a0b B2.out hb);have X3:=ι (X2.out.later hb);clear hb)|(refine a2e rfl (.tmp 4) (.tmp 16) rfl rfl w.heap.size X w0 false false rfl rfl HX.out a0i X3.out ?_;intro w5 hA hB;have X5:=ι hA;have B5:=ι (B3.out.trans hB);clear hA hB))
 exact a9h rfl w.heap.size X false rfl HX.out X5.out rfl ⟨rfl,B5.out⟩
set_option maxRecDepth 100000 in
set_option maxHeartbeats 1600000 in
theorem flater(x:Wr)(hx:Sec x.s)(b:Bool)(w:World):Calls Tryz.prog 173 #[aggT x b] w (Rt w (aggT x true)):=by
 have HX:=ι hx
 have a0:AtSt ((w.alloc (.cells (stC x b).toArray 187)).alloc (.cells #[Value.int IntKind.i64 0,Value.int IntKind.u8 0,Value.int IntKind.u8 0,Value.int IntKind.u8 0,Value.int IntKind.u8 0,Value.int IntKind.u8 0,Value.int IntKind.u8 0,Value.int IntKind.u8 0,Value.int IntKind.u8 0,Value.int IntKind.u8 0,Value.int IntKind.u8 0,Value.int IntKind.u8 0,Value.int IntKind.u8 0,Value.int IntKind.u8 0,Value.int IntKind.u8 0,Value.int IntKind.u8 0,Value.int IntKind.u8 0,Value.int IntKind.u8 0,Value.int IntKind.u8 0,Value.int IntKind.u8 0,Value.int IntKind.u8 0,Value.int IntKind.u8 0,Value.int IntKind.u8 0,Value.int IntKind.u8 0,Value.int IntKind.u8 0,Value.int IntKind.u8 0,Value.int IntKind.u8 0,Value.int IntKind.u8 0,Value.int IntKind.u8 0,Value.int IntKind.u8 0,Value.int IntKind.u8 0,Value.int IntKind.u8 0,Value.int IntKind.u8 0,Value.int IntKind.i64 0,Value.int IntKind.i64 0,Value.int IntKind.i64 0,Value.bool false] 187)) w.heap.size x b:=AtSt.later (heap_alloc_new _ _) (a0a (Below.refl _ _) _)
 have a2:=a1z (w.alloc (.cells (stC x b).toArray 187))
 rw[World.size_alloc] at a2
 have hbw:=a0a (a0a (Below.refl w.heap.size w) (.cells (stC x b).toArray 187)) (.cells #[Value.int IntKind.i64 0,Value.int IntKind.u8 0,Value.int IntKind.u8 0,Value.int IntKind.u8 0,Value.int IntKind.u8 0,Value.int IntKind.u8 0,Value.int IntKind.u8 0,Value.int IntKind.u8 0,Value.int IntKind.u8 0,Value.int IntKind.u8 0,Value.int IntKind.u8 0,Value.int IntKind.u8 0,Value.int IntKind.u8 0,Value.int IntKind.u8 0,Value.int IntKind.u8 0,Value.int IntKind.u8 0,Value.int IntKind.u8 0,Value.int IntKind.u8 0,Value.int IntKind.u8 0,Value.int IntKind.u8 0,Value.int IntKind.u8 0,Value.int IntKind.u8 0,Value.int IntKind.u8 0,Value.int IntKind.u8 0,Value.int IntKind.u8 0,Value.int IntKind.u8 0,Value.int IntKind.u8 0,Value.int IntKind.u8 0,Value.int IntKind.u8 0,Value.int IntKind.u8 0,Value.int IntKind.u8 0,Value.int IntKind.u8 0,Value.int IntKind.u8 0,Value.int IntKind.i64 0,Value.int IntKind.i64 0,Value.int IntKind.i64 0,Value.bool false] 187)
 obtain⟨W,hW⟩:∃W,(w.alloc (.cells (stC x b).toArray 187)).alloc (.cells #[Value.int IntKind.i64 0,Value.int IntKind.u8 0,Value.int IntKind.u8 0,Value.int IntKind.u8 0,Value.int IntKind.u8 0,Value.int IntKind.u8 0,Value.int IntKind.u8 0,Value.int IntKind.u8 0,Value.int IntKind.u8 0,Value.int IntKind.u8 0,Value.int IntKind.u8 0,Value.int IntKind.u8 0,Value.int IntKind.u8 0,Value.int IntKind.u8 0,Value.int IntKind.u8 0,Value.int IntKind.u8 0,Value.int IntKind.u8 0,Value.int IntKind.u8 0,Value.int IntKind.u8 0,Value.int IntKind.u8 0,Value.int IntKind.u8 0,Value.int IntKind.u8 0,Value.int IntKind.u8 0,Value.int IntKind.u8 0,Value.int IntKind.u8 0,Value.int IntKind.u8 0,Value.int IntKind.u8 0,Value.int IntKind.u8 0,Value.int IntKind.u8 0,Value.int IntKind.u8 0,Value.int IntKind.u8 0,Value.int IntKind.u8 0,Value.int IntKind.u8 0,Value.int IntKind.i64 0,Value.int IntKind.i64 0,Value.int IntKind.i64 0,Value.bool false] 187)=W:=⟨_,rfl⟩
 rw[hW] at hbw a0 a2
 have c36:=AtSt.flag hx a0
 have f36:=a0d a0 36
 have a1:=AtSt.mark hx a0 true
 have ht:=dsk.Touch.setCell (dsk.Touch.refl (fun b=>b=w.heap.size) W) ⟨w.heap.size,36,none⟩ rfl (.bool true)
 have a3:AtSt (W.setCell ⟨w.heap.size,36,none⟩ (.bool true)) (w.heap.size+1) w0 false:=(ht.block _ a2.lt (by omega)).trans a2
 have hbx:Below w.heap.size w (W.setCell ⟨w.heap.size,36,none⟩ (.bool true)):=hbw.setCell (p:=⟨w.heap.size,36,none⟩) (Nat.le_refl _) _
 obtain⟨W1,hW1⟩:∃W1,W.setCell ⟨w.heap.size,36,none⟩ (.bool true)=W1:=⟨_,rfl⟩
 rw[hW1] at a1 a3 hbx
 have A1:=ι a1
 have A3:=ι a3
 have B1:=ι hbx
 have HW1:=ι hW1
 clear hx hbw a0 a2 a1 a3 hbx ht hW1
 go_enter Tryz.func173,Tryz.ntmps173
 go_upto_region 1 with fail
 try rw[hW]
 clear hW
 go_upto_region 2 with fail
 rw[HW1.out]
 go_wp2_with (first|(refine load_st rfl (.tmp 1) rfl w.heap.size rfl x true HX.out A1.out ?_)|(refine a2e rfl (.tmp 2) (.tmp 4) rfl rfl (w.heap.size+1) x w0 true false rfl rfl HX.out a0i A3.out ?_;intro w5 hA hB;have X5:=ι hA;have B5:=ι (B1.out.trans (hB.mono (show w.heap.size≤w.heap.size+1 by omega)));clear hA hB))
 exact a9h rfl (w.heap.size+1) x true rfl HX.out X5.out rfl ⟨rfl,B5.out⟩
end fs
namespace fs
set_option maxRecDepth 100000
open Go.ChangeShapes Go.WideShapes Go.ChangeAt Go.RowKit
open rows
open sec
open dsk (InS grow St Wr Wr.ok Wr.c w0 CA barrier writeR a5h a0n)
open ly
open pa
open lk
open al
def runV(st:St):List (Wr×Bool)→Int×St
 | []=>(0,st)
 | (x,b)::r =>
  if b=true∧(barrier st).1≠0 then barrier st
  else if (writeR (if b then (barrier st).2 else st) x.pos x.s x.kind x.id).1≠0 then writeR (if b then (barrier st).2 else st) x.pos x.s x.kind x.id
  else runV (writeR (if b then (barrier st).2 else st) x.pos x.s x.kind x.id).2 r
def pstC(x:Wr×Bool):List Value:=stC x.1 x.2
def stsC(l:List (Wr×Bool)):List Value:=(l.map pstC).flatten
theorem a6f:∀(l:List Wr) (st:St),runV st (l.map fun x=>(x,false))=doR st l
 | [],st=>rfl
 | x::r,st=>by
  rw[List.map_cons,runV,doR,if_neg (by simp)]
  simp only[Bool.false_eq_true,if_false]
  split
  ·rfl
  ·exact a6f r _
theorem run_move(st:St)(x y:Wr):runV st [(x,false),(y,true)]=moveR st x y:=by
 rw[runV,if_neg (by simp),moveR]
 simp only[Bool.false_eq_true,if_false]
 rw[doR]
 by_cases h:(writeR st x.pos x.s x.kind x.id).1≠0
 ·rw[if_pos h,if_pos h,if_pos h]
 ·rw[if_neg h,if_neg h,if_neg (by simp[doR]),doR]
  rw[runV,doR,doR]
  simp only[true_and,if_true]
  split
  ·rfl
  ·split
   ·rfl
   ·rw[runV]
theorem b6l{st:St}{k m:Nat}(h:st.good k)(hm:k≤m):st.good m :=
 ⟨h.ss,h.n1,h.ws,h.es,Nat.le_trans h.wn hm,Nat.le_trans h.ln hm,h.bn,⟨h.ep.1,by have:=h.ep.2;omega⟩,⟨h.asked.1,by have:=h.asked.2;omega⟩⟩
theorem elem_sts:Elem 193 187 37 72 (aggT w0 false):=⟨Tryz.underlying193,by kernel_rfl,by decide,by decide,by decide⟩
theorem d2o{st:St}{k:Nat}(h:st.good k):(barrier st).2.good (k+1):=by
 unfold barrier
 split
 ·exact⟨h.ss,h.n1,h.ws,h.es,by have:=h.wn;show st.wait.length≤k+1;omega,by have:=h.ln;show st.log.length≤k+1;omega,h.bn,⟨h.ep.1,by have:=h.ep.2;show st.ep≤((k+1:Nat):Int);omega⟩,⟨by have:=h.asked.1;show 0≤st.asked+1;omega,by have:=h.asked.2;show st.asked+1≤((k+1:Nat):Int);omega⟩⟩
 ·refine⟨h.ss,h.n1,h.ws,fun e he => ?_,by have:=h.wn;show st.wait.length≤k+1;omega,by have:=h.ln;simp;omega,h.bn,⟨by have:=h.ep.1;show 0≤st.ep+1;omega,by have:=h.ep.2;show st.ep+1≤((k+1:Nat):Int);omega⟩,⟨by have:=h.asked.1;show 0≤st.asked+1;omega,by have:=h.asked.2;show st.asked+1≤((k+1:Nat):Int);omega⟩⟩
  rcases List.mem_append.1 he with he|he
  ·exact h.es e he
  ·rw[List.mem_singleton.1 he];exact⟨by show Sec dsk.w0.s;exact a0i,by simp⟩
theorem b0l{w:World}{F F':Nat→Prop}{d:Value}{st:St}(h:CA w F d st)(hF:∀b,F b→F' b):CA w F' d st:=by
 obtain⟨z,gg,vs,vw,vn,vl,vf,hd,h2⟩:=h
 exact⟨z,gg,vs,vw,vn,vl,vf,hd,h2.wider hF fun _ _=>rfl⟩
theorem c0h{ops:Array Oper}{rest:List Oper}{o:Oper}{a:Act}{w:World}{Q:Exit→Act→World→Prop}(hgd:o.guard=none)(p:Operand)(ho:o.op = .load 187 p)
  (g off:Nat) (hp:a.eval p = .pointer (some ⟨g,off,none⟩)) (x:Wr) (b:Bool) (hs:Sec x.s) (hg:w.rangeAt g off (stC x b))
  (h:wpList Tryz.prog ops Q rest (a.put o.dst (aggT x b)) w):wpList Tryz.prog ops Q (o::rest) a w :=
 wpList_load_mid hgd 187 p ho g off hp (stC x b) _ hg b8p rfl (by rw[a8u,a1c hs]) h
theorem AtSt.wr{w:World}{g:Nat}{x:Wr}{b:Bool}(h:AtSt w g x b):w.rangeAt g 0 x.c:=fun j u hj=>by
 refine h.range j u ?_
 rw[stC,List.getElem?_append_left (List.getElem?_eq_some_iff.1 hj).1]
 exact hj
theorem c1n{F:Nat→Prop}{w w':World}{g:Nat}{x:Wr}{b:Bool}(hs:Sec x.s)(h:AtSt w g x b)(ht:dsk.Touch F w.drew w')(hF:¬F g):w'.cell? ⟨g,0,none⟩=some (.int .i64 x.pos)∧w'.rangeAt g 1 (u8s x.s)∧(w'.cell? ⟨g,33,none⟩=some (.int .i64 x.kind)∧w'.cell? ⟨g,33+1,none⟩=some (.int .i64 x.id)):=by
 have h2:AtSt w' g x b:=(ht.block g h.lt hF).trans h
 have h3:=a5h hs h2.wr
 exact⟨h3.1,by simpa using h3.2.1,by simpa using h3.2.2.1,by simpa using h3.2.2.2.1⟩
set_option maxRecDepth 100000 in
set_option maxHeartbeats 3200000 in
theorem b9u(G:Nat→Prop)(g:Nat)(d:Value)(st:St)(xs:List (Wr×Bool))(p:Option Addr)(m c:Nat)(w:World)(hGl:∀b,G b→b<w.heap.size)(h:FsAt w G g d st)(k:Nat)(hg:st.good k)(hk:k+2 * m≤900)(hm:m≤10)(hr:Rd w 37 (.slice p m c) m (stsC xs))(hin:InS (fun b=>¬G b) (.slice p m c))(hok:∀x∈xs,x.1.ok) :
  Calls Tryz.prog 120 #[.pointer (some ⟨g,0,none⟩),.slice p m c] w (PDone G g d w (runV st xs)):=by
 have hlen:∀x∈xs,(pstC x).length=37:=fun x hx=>a1c (hok x hx).1
 have HLN:=ι hlen
 have HLL:=ι (dsk.Rd.count pstC hr hlen (by decide))
 have HR:=ι hr
 have HIN:=ι hin
 have HOK:=ι hok
 have HGG:=ι hGl
 have HGL:=ι h.row.lt
 have HAP:=ι h.apart
 have HI:Hid (FsAt w (grow G w w) g d st):=ι (a8d h (fun b hb=>Or.inl hb) (fun hh=>by
  rcases hh with h1|h1
  ·exact h.apart h1
  ·omega))
 have HG0:Hid (st.good (k+2 * 0)):=ι hg
 have hmi:(m:Int)≤10:=by omega
 clear h hg hr hin hok hlen hGl
 go_enter Tryz.func120,Tryz.ntmps120
 go_wp2_with fail
 go_loopw [6,7,8,11] (fun _ _ _ iv wr=>∃(i:Nat) (sj:St),i≤m∧iv = .int .i64 (i:Int)∧Hid (runV st xs=runV sj (xs.drop i))∧Hid (sj.good (k+2 * i))∧Hid (FsAt wr (grow G w wr) g d sj)∧Hid (dsk.Touch G w wr)) (fun _ _ _ iv _=>m-(intOf iv).toNat)
 case atStart=>exact⟨0,st,by omega,rfl,ι rfl,HG0,HI,ι (dsk.Touch.refl _ _)⟩
 case round =>
  obtain⟨i,sj,hi,rfl,HD,HG,HA,HT⟩:=hrel
  clear HI HG0
  by_cases hlt:i<m
  ·have hlti:(i:Int)<m:=by omega
   have hil:i<xs.length:=by rw[HLL.out];exact hlt
   have hrw:Rd wr 37 (.slice p m c) m (stsC xs):=dsk.Rd.kept HR.out HIN.out (HT.out.keeps fun b hb=>hb)
   obtain⟨b2,o2,rfl,hcc2,hcm2,hb2,_,HR2⟩:=dsk.Rd.chunk pstC hrw HLN.out (by decide) hlt
   have HX0:=HOK.out _ (List.getElem_mem hil)
   have HWR0:=HR2 i hil
   have HDS0:xs.drop i=xs[i]::xs.drop (i+1):=List.drop_eq_getElem_cons hil
   generalize xs[i]=y at *
   obtain⟨x,b⟩:=y
   have HX:=ι (show x.ok from HX0)
   have HWR:=ι (show wr.rangeAt b2 (o2+i * 37) (stC x b) from HWR0)
   have HDS:=ι HDS0
   have hNB:¬grow G w wr wr.heap.size:=fun hh=>by
    have:=HT.out.size
    rcases hh with h1|h1
    ·have:=HGG.out _ h1;omega
    ·omega
   have HNB:=ι hNB
   have hgw:wr.heap.size≠g:=by have:=HT.out.size;have:=HGL.out;omega
   clear HR2 hrw HX0 HWR0 HDS0 hNB
   go_upto_region 4 with(first|(refine c0h rfl (.tmp 13) rfl b2 (o2+i * 37) rfl x b HX.out.1 HWR.out ?_)|(refine a2e rfl (.tmp 6) (.tmp 14) rfl rfl wr.heap.size x w0 b false rfl rfl HX.out.1 a0i (a1z wr) ?_;intro w2 hA hB;have A2:=ι hA;have B2:=ι ((a0a (Below.refl wr.heap.size wr) _).trans hB);clear hA hB))
   have c36:=AtSt.flag HX.out.1 A2.out
   have HA2:=ι (HA.out.later B2.out)
   have T2:Hid (dsk.Touch G w w2):=ι (HT.out.trans (dsk.Touch.of_below B2.out))
   have s2:wr.heap.size<w2.heap.size:=A2.out.lt
   cases b with
   | false =>
    have F1:=ι (HA2.out.row)
    have HC:=ι fun w' (hb:Below w2.heap.size w2 w')=>dsk.cwrite w' (grow G w wr) d sj x.pos x.s x.kind x.id (lk.CA.later' HA2.out.code hb) (HG.out.fine (by omega)) HX.out.2.1 HX.out.1 HX.out.2.2.1 HX.out.2.2.2.1
    have HGN:=ι (a8w HG.out x.pos x.s x.kind x.id HX.out.1)
    have HDO:Hid (runV st xs=if (writeR sj x.pos x.s x.kind x.id).1≠0 then writeR sj x.pos x.s x.kind x.id else runV (writeR sj x.pos x.s x.kind x.id).2 (xs.drop (i+1))):=ι (by
     rw[HD.out,HDS.out,runV,if_neg (by simp)]
     simp only[Bool.false_eq_true,if_false])
    have HPT:=ι fun w' (hw:dsk.Touch (grow G w wr) w2.drew w')=>c1n HX.out.1 A2.out hw HNB.out
    have HPD:=ι fun w' (hw:dsk.Touch (grow G w wr) w2.drew w')=>(FR.touch (w:=w2.drew) F1.out hw HA.out.apart).disk
    have HFG:=ι fun b (hb:grow G w wr b)=>(show G b∨w.heap.size≤b from hb.imp id (fun h=>h.1))
    have HFG2:=ι fun b (hb:grow G w wr b)=>(show grow G w w2 b from hb.imp id (fun h=>⟨h.1,by omega⟩))
    have HNA:=ι HA.out.apart
    obtain⟨F,hF⟩:∃F,grow G w wr=F:=⟨_,rfl⟩
    rw[hF] at HC HPT HPD HFG HFG2 HNA
    obtain⟨r,hr⟩:∃r,writeR sj x.pos x.s x.kind x.id=r:=⟨_,rfl⟩
    rw[hr] at HDO HGN HC
    obtain⟨e1,s1⟩:=r
    simp only at HDO HGN HC
    clear hr hF HA HA2
    go_upto_region 8 with fail
    have h0:=dsk.Touch.refl F w2.drew
    refine wp_region_held_drew (S:=dsk.Touch F w2.drew) (by kernel_rfl) h0 (fun hH0 => ?_)
    refine tk 0 rfl ?_
    refine tk 1 rfl ?_
    refine tk 2 rfl ?_
    refine tkv 3 rfl (a0n (by rfl) 45 _ Tryz.underlying45 rfl _ rfl g 1 rfl _ (fun w' hw=>HPD.out w' hw)) ?_
    refine tk 4 rfl ?_
    refine tk 5 rfl ?_
    refine tkv 6 rfl (a0n (by rfl) 3 _ Tryz.underlying3 rfl _ rfl wr.heap.size 0 rfl _ (fun w' hw=>(HPT.out w' hw).1)) ?_
    refine tk 7 rfl ?_
    refine tk 8 rfl ?_
    refine tkv 9 rfl (a5p (by rfl) _ rfl wr.heap.size 1 rfl x.s HX.out.1.1 (fun w' hw=>(HPT.out w' hw).2.1)) ?_
    refine tk 10 rfl ?_
    refine tk 11 rfl ?_
    refine tkv 12 rfl (b3k (by rfl) _ rfl wr.heap.size 33 rfl x.kind x.id (fun w' hw=>(HPT.out w' hw).2.2)) ?_
    refine rd 13 rfl (fun K hK => ?_)
    go_simp
    refine(HC.out _ ((Below.refl w2.heap.size w2).drew)).mono ?_
    rintro e v1 ⟨rfl,hc1,ht1⟩
    have HC1:=ι hc1
    have h1:=ht1
    clear hc1
    dsimp only
    refine hK.out _ _ ?_ (fun hHeld => ?_)
    ·exact h1
    clear hK K
    try simp only[Act.put,List.setIfInBounds_toArray,List.set_cons_zero,List.set_cons_succ]
    refine tk 14 rfl ?_
    refine wpAnyH_done (by kernel_rfl) ?_ _
    have TV:Hid (dsk.Touch F w2 v1):=ι ⟨h1.os,h1.tape,h1.output,h1.size,h1.block⟩
    have HB3:Hid (dsk.Touch G w v1):=ι (T2.out.trans' TV.out HFG.out)
    have HA3:Hid (FsAt v1 (grow G w v1) g d s1):=ι ⟨F1.out.touch TV.out HNA.out,b0l HC1.out (fun b hb=>by
     have q1:=T2.out.size
     have q2:w2.heap.size≤v1.heap.size:=TV.out.size
     rcases hb with hb|hb
     ·rcases HFG2.out b hb with hb|hb
      ·exact Or.inl hb
      ·exact Or.inr ⟨hb.1,by omega⟩
     ·exact Or.inr ⟨by have:w2.heap.size≤b:=hb.1;omega,hb.2⟩),fun hh=>by
      have:=HGL.out
      rcases hh with h1|h1
      ·exact HAP.out h1
      ·omega⟩
    by_cases he:e1=0
    ·subst he
     have HD3:Hid (runV st xs=runV s1 (xs.drop (i+1))):=ι (by rw[HDO.out,if_neg (by simp)])
     go_wp2_with fail
     go_roundw
     case rel=>exact⟨i+1,s1,by omega,by go_num,HD3,ι (b6l HGN.out (by omega)),HA3,HB3⟩
     case measure=>simp[intOf];omega
    ·have hne:(e1 != 0)=true:=by simpa using he
     have HD3:Hid (runV st xs=(e1,s1)):=ι (by rw[HDO.out,if_pos he])
     go_wp2_with fail
     go_ret
     exact⟨by rw[HD3.out];rfl,by rw[HD3.out];exact HA3.out,HB3.out⟩
   | true =>
    have F1:=ι (HA2.out.row)
    have c1:=HA2.out.row.disk
    have HBA:=ι (dsk.cbarrier w2 (grow G w wr) d sj HA2.out.code (HG.out.fine (by omega)))
    have HGB:=ι (d2o HG.out)
    have HNA:=ι HA.out.apart
    have HDO:Hid (runV st xs=if (barrier sj).1≠0 then barrier sj else if (writeR (barrier sj).2 x.pos x.s x.kind x.id).1≠0 then writeR (barrier sj).2 x.pos x.s x.kind x.id else runV (writeR (barrier sj).2 x.pos x.s x.kind x.id).2 (xs.drop (i+1))):=ι (by
     rw[HD.out,HDS.out,runV]
     simp only[true_and,if_true])
    have HFG0:=ι fun b (hb:grow G w wr b)=>(show G b∨w.heap.size≤b from hb.imp id (fun h=>h.1))
    have HFG1:=ι fun b (hb:grow G w wr b)=>(show grow G w w2 b from hb.imp id (fun h=>⟨h.1,by omega⟩))
    obtain⟨F0,hF⟩:∃F,grow G w wr=F:=⟨_,rfl⟩
    rw[hF] at HBA HFG0 HFG1 HNA HNB
    obtain⟨rb,hrb⟩:∃r,barrier sj=r:=⟨_,rfl⟩
    rw[hrb] at HDO HGB HBA
    obtain⟨e0,s0⟩:=rb
    simp only at HDO HGB HBA
    clear hrb hF HA HA2
    go_upto_region 6 with(first|(go_at_call 75;refine HBA.out.mono ?_;rintro e w3 ⟨rfl,hc0,ht0⟩;have C3:=ι hc0;have T3:=ι ht0;clear hc0 ht0))
    have F3:=ι (F1.out.touch T3.out HNA.out)
    have A3:Hid (AtSt w3 wr.heap.size x true):=ι ((T3.out.block _ A2.out.lt HNB.out).trans A2.out)
    have T4:Hid (dsk.Touch G w w3):=ι (T2.out.trans' T3.out HFG0.out)
    have s3:=T3.out.size
    have HFG3:Hid (∀b,grow F0 w2 w3 b→grow G w w3 b):=ι fun b hb=>by
     have q1:=T2.out.size
     rcases hb with hb|hb
     ·rcases HFG1.out b hb with hb|hb
      ·exact Or.inl hb
      ·exact Or.inr ⟨hb.1,by omega⟩
     ·exact Or.inr ⟨by omega,hb.2⟩
    by_cases he0:e0=0
    ·subst he0
     have HDO2:Hid (runV st xs=if (writeR s0 x.pos x.s x.kind x.id).1≠0 then writeR s0 x.pos x.s x.kind x.id else runV (writeR s0 x.pos x.s x.kind x.id).2 (xs.drop (i+1))):=ι (by rw[HDO.out,if_neg (by simp)])
     have HNB3:¬grow F0 w2 w3 wr.heap.size:=fun hh=>by
      rcases hh with h1|h1
      ·exact HNB.out h1
      ·omega
     have HNA3:¬grow F0 w2 w3 g:=fun hh=>by
      have:=HGL.out
      have:=T2.out.size
      rcases hh with h1|h1
      ·exact HNA.out h1
      ·omega
     have HC:=ι fun w' (hb:Below w3.heap.size w3 w')=>dsk.cwrite w' (grow F0 w2 w3) d s0 x.pos x.s x.kind x.id (lk.CA.later' C3.out hb) (HGB.out.fine (by omega)) HX.out.2.1 HX.out.1 HX.out.2.2.1 HX.out.2.2.2.1
     have HGN:=ι (a8w HGB.out x.pos x.s x.kind x.id HX.out.1)
     have HPT:=ι fun w' (hw:dsk.Touch (grow F0 w2 w3) w3.drew w')=>c1n HX.out.1 A3.out hw HNB3
     have HPD:=ι fun w' (hw:dsk.Touch (grow F0 w2 w3) w3.drew w')=>(FR.touch (w:=w3.drew) F3.out hw HNA3).disk
     have HFG:=ι fun b (hb:grow F0 w2 w3 b)=>(show G b∨w.heap.size≤b from(HFG3.out b hb).imp id (fun h=>h.1))
     have HNAF:=ι HNA3
     have HFGX:=ι HFG3.out
     obtain⟨F,hF⟩:∃F,grow F0 w2 w3=F:=⟨_,rfl⟩
     rw[hF] at HC HPT HPD HFG HFGX HNAF
     obtain⟨r,hr⟩:∃r,writeR s0 x.pos x.s x.kind x.id=r:=⟨_,rfl⟩
     rw[hr] at HDO2 HGN HC
     obtain⟨e1,s1⟩:=r
     simp only at HDO2 HGN HC
     clear hr hF HNB3 HNA3 HFG3 C3 T3 T2 A2 HDO HNA HNB HFG0 HFG1 F1
     have F1:=F3
     have T2:=T4
     have HFG2:=HFGX
     have HDO:=HDO2
     have HNA:=HNAF
     clear F3 T4 HFGX HDO2 HNAF
     clear s2 c1 c36
     have s2:=A3.out.lt
     clear A3 s3 HGB
     go_upto_region 8 with fail
     have h0:=dsk.Touch.refl F w3.drew
     refine wp_region_held_drew (S:=dsk.Touch F w3.drew) (by kernel_rfl) h0 (fun hH0 => ?_)
     refine tk 0 rfl ?_
     refine tk 1 rfl ?_
     refine tk 2 rfl ?_
     refine tkv 3 rfl (a0n (by rfl) 45 _ Tryz.underlying45 rfl _ rfl g 1 rfl _ (fun w' hw=>HPD.out w' hw)) ?_
     refine tk 4 rfl ?_
     refine tk 5 rfl ?_
     refine tkv 6 rfl (a0n (by rfl) 3 _ Tryz.underlying3 rfl _ rfl wr.heap.size 0 rfl _ (fun w' hw=>(HPT.out w' hw).1)) ?_
     refine tk 7 rfl ?_
     refine tk 8 rfl ?_
     refine tkv 9 rfl (a5p (by rfl) _ rfl wr.heap.size 1 rfl x.s HX.out.1.1 (fun w' hw=>(HPT.out w' hw).2.1)) ?_
     refine tk 10 rfl ?_
     refine tk 11 rfl ?_
     refine tkv 12 rfl (b3k (by rfl) _ rfl wr.heap.size 33 rfl x.kind x.id (fun w' hw=>(HPT.out w' hw).2.2)) ?_
     refine rd 13 rfl (fun K hK => ?_)
     go_simp
     refine(HC.out _ ((Below.refl w3.heap.size w3).drew)).mono ?_
     rintro e v1 ⟨rfl,hc1,ht1⟩
     have HC1:=ι hc1
     have h1:=ht1
     clear hc1
     dsimp only
     refine hK.out _ _ ?_ (fun hHeld => ?_)
     ·exact h1
     clear hK K
     try simp only[Act.put,List.setIfInBounds_toArray,List.set_cons_zero,List.set_cons_succ]
     refine tk 14 rfl ?_
     refine wpAnyH_done (by kernel_rfl) ?_ _
     have TV:Hid (dsk.Touch F w3 v1):=ι ⟨h1.os,h1.tape,h1.output,h1.size,h1.block⟩
     have HB3:Hid (dsk.Touch G w v1):=ι (T2.out.trans' TV.out HFG.out)
     have HA3:Hid (FsAt v1 (grow G w v1) g d s1):=ι ⟨F1.out.touch TV.out HNA.out,b0l HC1.out (fun b hb=>by
      have q1:=T2.out.size
      have q2:w3.heap.size≤v1.heap.size:=TV.out.size
      rcases hb with hb|hb
      ·rcases HFG2.out b hb with hb|hb
       ·exact Or.inl hb
       ·exact Or.inr ⟨hb.1,by omega⟩
      ·exact Or.inr ⟨by have:w3.heap.size≤b:=hb.1;omega,hb.2⟩),fun hh=>by
       have:=HGL.out
       rcases hh with h1|h1
       ·exact HAP.out h1
       ·omega⟩
     by_cases he:e1=0
     ·subst he
      have HD3:Hid (runV st xs=runV s1 (xs.drop (i+1))):=ι (by rw[HDO.out,if_neg (by simp)])
      go_wp2_with fail
      go_roundw
      case rel=>exact⟨i+1,s1,by omega,by go_num,HD3,ι (b6l HGN.out (by omega)),HA3,HB3⟩
      case measure=>simp[intOf];omega
     ·have hne:(e1 != 0)=true:=by simpa using he
      have HD3:Hid (runV st xs=(e1,s1)):=ι (by rw[HDO.out,if_pos he])
      go_wp2_with fail
      go_ret
      exact⟨by rw[HD3.out];rfl,by rw[HD3.out];exact HA3.out,HB3.out⟩
    ·have hne:(e0 != 0)=true:=by simpa using he0
     have HD3:Hid (runV st xs=(e0,s0)):=ι (by rw[HDO.out,if_pos he0])
     have HAP2:=HAP.out
     have HGL2:=HGL.out
     go_wp2_with fail
     go_ret
     exact⟨by rw[HD3.out];rfl,by rw[HD3.out];exact⟨F3.out,b0l C3.out HFG3.out,fun hh=>by
      rcases hh with h1|h1
      ·exact HAP2 h1
      ·omega⟩,T4.out⟩
  ·have hge:(m:Int)≤i:=by omega
   have HE:Hid (runV st xs=(0,sj)):=ι (by rw[HD.out,List.drop_of_length_le (by rw[HLL.out];omega)];rfl)
   go_wp2_with fail
   go_ret
   exact⟨by rw[HE.out];rfl,by rw[HE.out];exact HA.out,HT.out⟩
theorem a0y{w:World}{G:Nat→Prop}{g:Nat}{d:Value}{st:St}(h:FsAt w G g d st):FsAt w (fun b=>G b∧b<w.heap.size) g d st:=⟨h.row,dsk.CA.narrow h.code,fun hh=>h.apart hh.1⟩
theorem c5h{G:Nat→Prop}{g:Nat}{d:Value}{w w':World}{r:Int×St}{e:Ending}(hg:g<w.heap.size)(hG:¬G g)(h:PDone (fun b=>G b∧b<w.heap.size) g d w r e w'):PDone G g d w r e w' :=
 ⟨h.1,a8d h.2.1 (fun b hb=>hb.imp (fun h=>h.1) id) (fun hh=>by
  rcases hh with h1|h1
  ·exact hG h1
  ·omega),h.2.2.mono fun b hb=>hb.1⟩
theorem fperform(G:Nat→Prop)(g:Nat)(d:Value)(st:St)(xs:List (Wr×Bool))(p:Option Addr)(m c:Nat)(w:World)(h:FsAt w G g d st)(k:Nat)(hg:st.good k)(hk:k+2 * m≤900)(hm:m≤10)(hr:Rd w 37 (.slice p m c) m (stsC xs))(hin:InS (fun b=>¬G b) (.slice p m c))(hok:∀x∈xs,x.1.ok) :
  Calls Tryz.prog 120 #[.pointer (some ⟨g,0,none⟩),.slice p m c] w (PDone G g d w (runV st xs)) :=
 (b9u _ g d st xs p m c w (fun b hb=>hb.2) (a0y h) k hg hk hm hr (fun a n c' h1 h2 hh=>hin a n c' h1 h2 hh.1) hok).mono fun e w' hd=>c5h h.row.lt h.apart hd
end fs
namespace fs
set_option maxRecDepth 100000
open Go.ChangeShapes Go.WideShapes Go.ChangeAt Go.RowKit
open rows
open sec
open dsk (a0c a0d a0e size_alloc Wr.ok Wr.c a0n)
open ly
open pa
open lk
open al
theorem b2l{w:World}{ops:Array Oper}{o:Oper}{a:Act}{K:Act→World→Prop}{Q:Exit→Act→World→Prop}{F:Prop}(hw:Region.wanted o (yielded ops a.tmps)=true)(x y:Operand)(ho:o.op = .store 3 x y)
  (b off:Nat) (hx:a.eval x = .pointer (some ⟨b,off,none⟩)) (z:Int) (hy:a.eval y = .int .i64 z) (u:Value) (hc:w.cell? ⟨b,off,none⟩=some u) (hf:w.frozen? ⟨b,off,none⟩=false)
  (h:K (a.put o.dst undef) (w.setCell ⟨b,off,none⟩ (.int .i64 z))):if Region.wanted o (yielded ops a.tmps)=true then Oper.wp Tryz.prog o a w K Q else F:=by
 rw[if_pos hw]
 have hs:=run_storeCells_cells (P:=Tryz.prog) b off [.int .i64 z] 0 w (fun j hj=>by
  obtain rfl:j=0:=by simpa using hj
  simp[hc]) (fun j hj=>by
  obtain rfl:j=0:=by simpa using hj
  simpa using hf) (fun v hv=>by simp at hv;subst hv;rfl)
 have hi:(Tryz.prog.info? 3).map (·.size)=some 1:=by kernel_rfl
 have hv:(storeVar 3 ⟨b,off,none⟩ (.int .i64 z)).run Tryz.prog w = .ok () (w.setCell ⟨b,off,none⟩ (.int .i64 z)):=by
  cases hq:Tryz.prog.info? 3 with
  | none=>simp[hq] at hi
  | some i =>
   have hsz:i.size=1:=by simpa [hq] using hi
   simp only[Nat.add_zero] at hs
   simp[storeVar,sizeOf,typeInfo,hq,Value.cells,hsz,hs]
   rfl
 unfold Oper.wp execOp
 simp only[ho,hx,hy,Instr.storeAt,Instr.sureAddr,Sem.run_bind,Sem.run_pure,Result.andThen_ok,hv]
 exact h
structure Plc where
 dir:Int
 name:ByteArray
 is:Bool
 k:Int
 tg:Int
def plc0:Plc:=⟨0,ByteArray.empty,false,0,0⟩
abbrev Plc.c(x:Plc):Array Value := #[.int .i64 x.dir,.string x.name,.bool x.is,.int .i64 x.k,.int .i64 x.tg]
abbrev aggP(x:Plc):Value := .agg x.c
def plcOf(ss:List (List Int))(x:Spot):Plc:=⟨x.dir,x.name,x.is,x.k,if x.is then (entAt ss x.k).target else 0⟩
theorem a9y:(Tryz.prog.info? 180).map (·.size)=some 5:=by kernel_rfl
def AtP(w:World)(g:Nat)(x:Plc):Prop:=w.heap[g]? = some (.cells x.c 180 (0,0))
theorem AtP.lt{w:World}{g:Nat}{x:Plc}(h:AtP w g x):g<w.heap.size:=(Array.getElem?_eq_some_iff.1 h).1
theorem AtP.later{w w':World}{g:Nat}{x:Plc}(h:AtP w g x)(k:Below w.heap.size w w'):AtP w' g x:=(k.block g h.lt).trans h
theorem AtP.touch{S:Nat→Prop}{w w':World}{g:Nat}{x:Plc}(h:AtP w g x)(ht:dsk.Touch S w w')(hg:¬S g):AtP w' g x:=(ht.block g h.lt hg).trans h
theorem b9w(w:World)(x:Plc):AtP (w.alloc (.cells x.c 180)) w.heap.size x:=heap_alloc_new _ _
theorem a3a(w:World):AtP (w.alloc (.cells #[.int .i64 0,.string { data := #[] },.bool false,.int .i64 0,.int .i64 0] 180)) w.heap.size plc0:=heap_alloc_new _ _
theorem AtP.cell0{w:World}{g:Nat}{x:Plc}(h:AtP w g x):w.cell? ⟨g,0,none⟩=some (.int .i64 x.dir):=a0c h 0 _ rfl
theorem AtP.cell1{w:World}{g:Nat}{x:Plc}(h:AtP w g x):w.cell? ⟨g,1,none⟩=some (.string x.name):=a0c h 1 _ rfl
theorem AtP.cell2{w:World}{g:Nat}{x:Plc}(h:AtP w g x):w.cell? ⟨g,2,none⟩=some (.bool x.is):=a0c h 2 _ rfl
theorem AtP.cell3{w:World}{g:Nat}{x:Plc}(h:AtP w g x):w.cell? ⟨g,3,none⟩=some (.int .i64 x.k):=a0c h 3 _ rfl
theorem AtP.cell4{w:World}{g:Nat}{x:Plc}(h:AtP w g x):w.cell? ⟨g,4,none⟩=some (.int .i64 x.tg):=a0c h 4 _ rfl
theorem AtP.setIs{w:World}{g:Nat}{x:Plc}(h:AtP w g x)(b:Bool):AtP (w.setCell ⟨g,2,none⟩ (.bool b)) g {x with is:=b}:=a0e h _
theorem AtP.setK{w:World}{g:Nat}{x:Plc}(h:AtP w g x)(z:Int):AtP (w.setCell ⟨g,3,none⟩ (.int .i64 z)) g {x with k:=z}:=a0e h _
theorem AtP.setT{w:World}{g:Nat}{x:Plc}(h:AtP w g x)(z:Int):AtP (w.setCell ⟨g,4,none⟩ (.int .i64 z)) g {x with tg:=z}:=a0e h _
theorem AtP.other{w:World}{g k j:Nat}{x:Plc}(h:AtP w k x)(hk:k≠g)(v:Value):AtP (w.setCell ⟨g,j,none⟩ v) k x:=(Below.heap_setCell _ _ _ _ hk).trans h
theorem a0x{ops:Array Oper}{rest:List Oper}{o:Oper}{a:Act}{w:World}{Q:Exit→Act→World→Prop}(hgd:o.guard=none)(p y:Operand)(ho:o.op = .store 180 p y)(hd:o.dst=none)
  (g:Nat) (x old:Plc) (hp:a.eval p = .pointer (some ⟨g,0,none⟩)) (hy:a.eval y=aggP x) (hg:AtP w g old)
  (h:∀w',AtP w' g x→Below g w w'→wpList Tryz.prog ops Q rest a w'):wpList Tryz.prog ops Q (o::rest) a w:=by
 refine wpList_store_row hgd 180 p y ho g x.c hp hy 180 _ hg (by rw[a9y];rfl) rfl (by simp[Plc.c,Value.oneCell']) ?_
 rw[hd]
 exact h _ (setRow_heap w g _ _ _ _ hg) ((Below.refl g w).trans ⟨rfl,rfl,rfl,by simp[World.setRow],fun k hk=>setRow_other w g k _ (by omega)⟩)
theorem a1o{ops:Array Oper}{rest:List Oper}{o:Oper}{a:Act}{w:World}{Q:Exit→Act→World→Prop}(hgd:o.guard=none)(p:Operand)(ho:o.op = .load 180 p)
  (g:Nat) (hp:a.eval p = .pointer (some ⟨g,0,none⟩)) (x:Plc) (hg:AtP w g x)
  (h:wpList Tryz.prog ops Q rest (a.put o.dst (aggP x)) w):wpList Tryz.prog ops Q (o::rest) a w :=
 wpList_load_row hgd 180 p ho g hp 180 _ _ _ hg Tryz.underlying180 rfl (by rw[a9y];rfl) h
theorem AtP.range{w:World}{g:Nat}{x:Plc}(h:AtP w g x):w.rangeAt g 0 x.c.toList:=by
 have:=World.rangeAt_of_block h 0 5
 simpa using this
theorem ld_plc{ops:Array Oper}{S:World→Prop}{op:Oper}{a:Act}(hw:Region.wanted op (yielded ops a.tmps)=true)(y:Operand)(ho:op.op = .load 180 y)
  (g:Nat) (hx:a.eval y = .pointer (some ⟨g,0,none⟩)) (x:Plc) (hS:∀w,S w→AtP w g x):YieldsIf Tryz.prog ops S op (aggP x) a :=
 yieldsIf_load_mid hw 180 y ho g 0 hx x.c.toList _ (fun w hw=>(hS w hw).range) Tryz.underlying180 rfl (by rw[a9y];rfl)
theorem a8a{fn:Func}{p q:Tmp}{R:Ending→World→Prop}{a:Act}{w:World}(h:fn.results = #[.cell p 180,.tmp q])(g:Nat)(x:Plc)(v:Value)(hp:a.tmps.getD p undef = .pointer (some ⟨g,0,none⟩))(hq:a.tmps.getD q undef=v)(hg:AtP w g x)
  (hd:a.defers=[]) (hR:R (.returned (.tuple #[aggP x,v])) w):bodyPost Tryz.prog fn R .ret a w:=by
 refine bodyPost_ret (v := .tuple #[aggP x,v]) ?_ hd hR
 have hp':a.tmps[p]?.getD undef = .pointer (some ⟨g,0,none⟩):=by simpa using hp
 have hq':a.tmps[q]?.getD undef=v:=by simpa using hq
 have hl:=run_loadVar_row (P:=Tryz.prog) w g _ 180 _ _ _ hg Tryz.underlying180 rfl (by rw[a9y];rfl)
 simp[results,h,hp',hq',asAddr,hl]
set_option maxRecDepth 100000 in
set_option maxHeartbeats 1600000 in
theorem fentry(x:Plc)(t:Int)(w:World):Calls Tryz.prog 123 #[aggP x,.int .i64 t] w (Rt w (aggE ⟨true,x.dir,x.name,t⟩)):=by
 have a0:AtP ((w.alloc (.cells x.c 180)).alloc (.cells #[.bool false,.int .i64 0,.string { data := #[] },.int .i64 0] 170)) w.heap.size x:=(b9w w x).later (a0a (Below.refl _ _) _)
 have a2:=a5g (w.alloc (.cells x.c 180))
 rw[World.size_alloc] at a2
 have hbw:=a0a (a0a (Below.refl w.heap.size w) (.cells x.c 180)) (.cells #[.bool false,.int .i64 0,.string { data := #[] },.int .i64 0] 170)
 obtain⟨W,hW⟩:∃W,(w.alloc (.cells x.c 180)).alloc (.cells #[.bool false,.int .i64 0,.string { data := #[] },.int .i64 0] 170)=W:=⟨_,rfl⟩
 rw[hW] at hbw a0 a2
 have HB0:=ι hbw
 have c0:=a0.cell0
 have c1:=a0.cell1
 have A2:=ι a2
 clear hbw a0 a2
 go_enter Tryz.func123,Tryz.ntmps123
 go_upto_region 1 with fail
 try rw[hW]
 clear hW
 go_wp2_with (refine a1l rfl (.tmp 4) (.tmp 10) rfl rfl (w.heap.size+1) ⟨true,x.dir,x.name,t⟩ ent0 rfl rfl A2.out ?_;intro w5 hA hB _;have X5:=ι hA;have B5:=ι (HB0.out.trans (hB.mono (show w.heap.size≤w.heap.size+1 by omega)));clear hA hB)
 exact b0d rfl (w.heap.size+1) ⟨true,x.dir,x.name,t⟩ rfl X5.out rfl ⟨rfl,B5.out⟩
set_option maxRecDepth 100000 in
set_option maxHeartbeats 3200000 in
theorem flocate(w:World)(g:Nat)(d:Value)(ss:List (List Int))(s:ByteArray)(h:FK w g d ss)(hm:Mx w)(hsz:s.size≤100000) :
  Calls Tryz.prog 117 #[.pointer (some ⟨g,0,none⟩),.string s] w (Rt w (.tuple #[aggP (plcOf ss (placeV ss s).1),.int .i64 (placeV ss s).2])):=by
 have HK:=ι h
 have HM:=ι fun w' (hb:Below w.heap.size w w')=>fmade g w' (h.row.later hb).self
 have HP:=ι fun w' (hb:Below w.heap.size w w')=>b2b s w' (hm.later hb) hsz
 have HL:=ι fun w' (hb:Below w.heap.size w w')=>a9e w' d ss (strOfNums (parL (bys s))) (hm.later hb) (h.dk.later hb) (by rw[strOfNums_size];have:=d4q (bys s);omega)
 obtain⟨hz0,hz1⟩:=a6u h.dk.secs.1 (bys (strOfNums (parL (bys s))))
 have HI:=ι fun w' (hb:Below w.heap.size w w')=>fisfolder w' g d ss (lookV ss (bys (strOfNums (parL (bys s))))).1 (h.later hb) (a0f (by omega))
 have HF:=ι fun w' (hb:Below w.heap.size w w')=>c1m w' d ss (lookV ss (bys (strOfNums (parL (bys s))))).1 (strOfNums (lastL (bys s))) (h.dk.later hb)
 have HE:=ι fun(k:Nat) (hk:k<24) w' (hb:Below w.heap.size w w')=>a8f w' d ss (k:Int) (h.dk.later hb) (a0f (by omega))
 obtain⟨V,HV⟩:∃V,placeV ss s=V:=⟨_,rfl⟩
 rw[HV]
 unfold placeV at HV
 unfold lookT at HL
 generalize lookV ss (bys (strOfNums (parL (bys s))))=lv at *
 obtain⟨z,e2⟩:=lv
 simp only at HL HI HF HV hz0 hz1
 generalize errP (bys s)=e1 at *
 generalize strOfNums (lastL (bys s))=nm at *
 generalize strOfNums (parL (bys s))=up at *
 obtain⟨kd,hkd⟩:∃kd,(inoAt ss z).kind=kd:=⟨_,rfl⟩
 rw[hkd] at HI HV
 obtain⟨W1,hW1⟩:∃W1,w.alloc (.cells #[.int .i64 0,.string { data := #[] },.bool false,.int .i64 0,.int .i64 0] 180)=W1:=⟨_,rfl⟩
 have A1:Hid (AtP W1 w.heap.size plc0):=ι (by rw[← hW1];exact heap_alloc_new _ _)
 have B1:Hid (Below w.heap.size w W1):=ι (by rw[← hW1];exact a0a (Below.refl _ _) _)
 have HGW:=ι h.row.lt
 clear h hm hsz hkd hz0 hz1
 by_cases he1:e1=0
 ·subst he1
  rw[if_neg (by simp)] at HV
  by_cases he2:e2=0
  ·subst he2
   rw[if_neg (by simp)] at HV
   by_cases hk:kd=2
   ·subst hk
    rw[if_neg (by simp)] at HV
    have HI2:Hid (∀w',Below w.heap.size w w'→Calls Tryz.prog 129 #[.pointer (some ⟨g,0,none⟩),.int .i64 z] w' fun e w''=>e = .returned (.bool true)∧Below w'.heap.size w' w''):=ι fun w' hb=>HI.out w' hb
    clear HI
    cases hfo:findO ss z nm with
    | none =>
     rw[hfo,a5r] at HF
     rw[hfo] at HV
     subst HV
     go_enter Tryz.func117,Tryz.ntmps117
     go_upto_region 1 with fail
     clear hW1
     go_upto_region 12 with(first
      | (go_at_call 47;refine(HM.out _ B1.out).mono ?_;rintro e wm ⟨rfl,hwm⟩;obtain rfl:=hwm)
      | (go_at_call 128;refine(HP.out _ B1.out).mono ?_;rintro e w2 ⟨rfl,hb⟩;have B2:=ι (a0b B1.out hb);have A2:=ι (A1.out.later hb);have c2:=(HK.out.later B2.out).row.disk;clear hb)
      | (go_at_call 82;refine(HL.out _ B2.out).mono ?_;rintro e w3 ⟨rfl,hb⟩;have B3:=ι (a0b B2.out hb);have A3:=ι (A2.out.later hb);clear hb)
      | (go_at_call 129;refine(HI2.out _ B3.out).mono ?_;rintro e w4 ⟨rfl,hb⟩;have B4:=ι (a0b B3.out hb);have A4:=ι (A3.out.later hb);clear hb)
      | (refine a0x rfl (.tmp 10) (.tmp 45) rfl rfl w4.heap.size ⟨z,nm,false,0,0⟩ plc0 rfl rfl (a3a w4) ?_;intro w5 hA hB;have hb:=(a0a (Below.refl _ w4) _).trans hB;have B5:=ι (a0b B4.out hb);have A5:=ι (A4.out.later hb);have P5:=ι hA;clear hA hB hb))
     have c5:=(HK.out.later B5.out).row.disk
     go_upto_region 13 with(go_at_call 134;refine(HF.out _ B5.out).mono ?_;rintro e w6 ⟨rfl,hb⟩;have B6:=ι (a0b B5.out hb);have A6:=ι (A5.out.later hb);have P6:=ι (P5.out.later hb);clear hb;have q3:=P6.out.cell3;have f3:=a0d P6.out 3;have q2:=(P6.out.setK 0).cell2;have f2:=a0d (P6.out.setK 0) 2)
     have hgb:w.heap.size≠w4.heap.size:=by have:=A4.out.lt;omega
     have P8:=(P6.out.setK 0).setIs false
     have A8:=(A6.out.other hgb (j:=3) (.int .i64 0)).other hgb (j:=2) (.bool false)
     have B8:=(B6.out.setCell (p:=⟨w4.heap.size,3,none⟩) B4.out.size (.int .i64 0)).setCell (p:=⟨w4.heap.size,2,none⟩) B4.out.size (.bool false)
     generalize (w6.setCell ⟨w4.heap.size,3,none⟩ (.int .i64 0)).setCell ⟨w4.heap.size,2,none⟩ (.bool false)=w8 at *
     have P8:Hid (AtP w8 w4.heap.size ⟨z,nm,false,0,0⟩):=ι P8
     have A8:=ι A8
     have B8:=ι B8
     have q8:=P8.out.cell2
     go_wp2_with (first|(refine a1o rfl (.tmp 10) rfl w4.heap.size rfl ⟨z,nm,false,0,0⟩ P8.out ?_)|(refine a0x rfl (.tmp 4) (.tmp 69) rfl rfl w.heap.size ⟨z,nm,false,0,0⟩ plc0 rfl rfl A8.out ?_;intro w9 hA hB;have A9:=ι hA;have B9:=ι (B8.out.trans hB);clear hA hB))
     exact a8a rfl w.heap.size ⟨z,nm,false,0,0⟩ (.int .i64 0) rfl rfl A9.out rfl ⟨rfl,B9.out⟩
    | some k =>
     rw[hfo,a5u] at HF
     rw[hfo] at HV
     subst HV
     have hk24:=b4v hfo
     have HEk:=ι (HE.out k hk24)
     have hf3:=fieldE3 (entAt ss (k:Int))
     obtain⟨R,hR⟩:∃R,(Ending.returned (.tuple #[aggP (plcOf ss ⟨z,nm,(k:Int),true⟩),.int .i64 0]))=R:=⟨_,rfl⟩
     have HR:Hid (R = .returned (.tuple #[aggP ⟨z,nm,true,(k:Int),(entAt ss (k:Int)).target⟩,.int .i64 0])):=ι hR.symm
     change Calls _ _ _ _ fun e w'=>e=(Ending.returned (.tuple #[aggP (plcOf ss ⟨z,nm,(k:Int),true⟩),.int .i64 0]))∧_
     rw[hR]
     generalize (entAt ss (k:Int)).target=tg at *
     generalize aggE (entAt ss (k:Int))=xv at *
     clear hfo hR
     go_enter Tryz.func117,Tryz.ntmps117
     go_upto_region 1 with fail
     clear hW1
     go_upto_region 12 with(first
      | (go_at_call 47;refine(HM.out _ B1.out).mono ?_;rintro e wm ⟨rfl,hwm⟩;obtain rfl:=hwm)
      | (go_at_call 128;refine(HP.out _ B1.out).mono ?_;rintro e w2 ⟨rfl,hb⟩;have B2:=ι (a0b B1.out hb);have A2:=ι (A1.out.later hb);have c2:=(HK.out.later B2.out).row.disk;clear hb)
      | (go_at_call 82;refine(HL.out _ B2.out).mono ?_;rintro e w3 ⟨rfl,hb⟩;have B3:=ι (a0b B2.out hb);have A3:=ι (A2.out.later hb);clear hb)
      | (go_at_call 129;refine(HI2.out _ B3.out).mono ?_;rintro e w4 ⟨rfl,hb⟩;have B4:=ι (a0b B3.out hb);have A4:=ι (A3.out.later hb);clear hb)
      | (refine a0x rfl (.tmp 10) (.tmp 45) rfl rfl w4.heap.size ⟨z,nm,false,0,0⟩ plc0 rfl rfl (a3a w4) ?_;intro w5 hA hB;have hb:=(a0a (Below.refl _ w4) _).trans hB;have B5:=ι (a0b B4.out hb);have A5:=ι (A4.out.later hb);have P5:=ι hA;clear hA hB hb))
     have c5:=(HK.out.later B5.out).row.disk
     go_upto_region 13 with(go_at_call 134;refine(HF.out _ B5.out).mono ?_;rintro e w6 ⟨rfl,hb⟩;have B6:=ι (a0b B5.out hb);have A6:=ι (A5.out.later hb);have P6:=ι (P5.out.later hb);clear hb;have q3:=P6.out.cell3;have f3:=a0d P6.out 3;have q2:=(P6.out.setK (k:Int)).cell2;have f2:=a0d (P6.out.setK (k:Int)) 2)
     have hgb:w.heap.size≠w4.heap.size:=by have:=A4.out.lt;omega
     have P8:=(P6.out.setK (k:Int)).setIs true
     have A8:=(A6.out.other hgb (j:=3) (.int .i64 (k:Int))).other hgb (j:=2) (.bool true)
     have B8:=(B6.out.setCell (p:=⟨w4.heap.size,3,none⟩) B4.out.size (.int .i64 (k:Int))).setCell (p:=⟨w4.heap.size,2,none⟩) B4.out.size (.bool true)
     generalize (w6.setCell ⟨w4.heap.size,3,none⟩ (.int .i64 (k:Int))).setCell ⟨w4.heap.size,2,none⟩ (.bool true)=w8 at *
     have P8:Hid (AtP w8 w4.heap.size ⟨z,nm,true,(k:Int),0⟩):=ι P8
     have A8:=ι A8
     have B8:=ι B8
     have q8:=P8.out.cell2
     go_upto_region 14 with fail
     have hgg:g≠w4.heap.size:=by have:=HGW.out;have:=B4.out.size;omega
     have F8:=ι (HK.out.later B8.out).row
     have HBd:Hid (∀v,dsk.Touch (fun b=>b=w4.heap.size) w8.drew v→Below w.heap.size w v):=ι fun v hv=>B8.out.trans ((Below.refl w.heap.size w8).drew.trans (hv.below B8.out.size (fun i hi=>by subst hi;exact B4.out.size)))
     have HFd:Hid (∀v,dsk.Touch (fun b=>b=w4.heap.size) w8.drew v→v.cell? ⟨g,1,none⟩=some d):=ι fun v hv=>(FR.touch (w:=w8.drew) F8.out hv hgg).disk
     have h0:dsk.Touch (fun b=>b=w4.heap.size) w8.drew w8.drew∧∃t,AtP w8.drew w4.heap.size ⟨z,nm,true,(k:Int),t⟩:=⟨dsk.Touch.refl _ _,0,P8.out⟩
     clear q3 f3 q2 f2 q8 c5 c2
     refine wp_region_held_drew (S:=fun v=>dsk.Touch (fun b=>b=w4.heap.size) w8.drew v∧∃t,AtP v w4.heap.size ⟨z,nm,true,(k:Int),t⟩) (by kernel_rfl) h0 (fun hH0 => ?_)
     refine tk 0 rfl ?_
     refine tk 1 rfl ?_
     refine tk 2 rfl ?_
     refine tkv 3 rfl (a0n (by rfl) 45 _ Tryz.underlying45 rfl _ rfl g 1 rfl _ (fun w' hw=>HFd.out w' hw.1)) ?_
     refine tk 4 rfl ?_
     refine tkv 5 rfl (a0n (by rfl) 3 _ Tryz.underlying3 rfl _ rfl w4.heap.size 3 rfl (.int .i64 (k:Int)) (fun w' hw=>by obtain⟨t,ht⟩:=hw.2;exact ht.cell3)) ?_
     refine rd 6 rfl (fun K hK => ?_)
     go_simp
     refine(HEk.out _ (HBd.out _ h0.1)).mono ?_
     rintro e v1 ⟨rfl,hb1⟩
     have h1:dsk.Touch (fun b=>b=w4.heap.size) w8.drew v1∧∃t,AtP v1 w4.heap.size ⟨z,nm,true,(k:Int),t⟩:=⟨h0.1.trans (dsk.Touch.of_below hb1),by obtain⟨t,ht⟩:=h0.2;exact⟨t,ht.later hb1⟩⟩
     dsimp only
     refine hK.out _ _ ?_ (fun hHeld => ?_)
     ·exact h1
     clear hK K
     try simp only[Act.put,List.setIfInBounds_toArray,List.set_cons_zero,List.set_cons_succ]
     refine tk 7 rfl ?_
     refine tk 8 rfl ?_
     refine rd 9 rfl (fun K hK => ?_)
     obtain⟨tt,htt⟩:=h1.2
     refine b2l (by rfl) (.tmp 68) (.tmp 67) rfl w4.heap.size 4 rfl tg rfl _ htt.cell4 (a0d htt 4) ?_
     have PX:=ι (htt.setT tg)
     have h2:dsk.Touch (fun b=>b=w4.heap.size) w8.drew (v1.setCell ⟨w4.heap.size,4,none⟩ (.int .i64 tg))∧∃t,AtP (v1.setCell ⟨w4.heap.size,4,none⟩ (.int .i64 tg)) w4.heap.size ⟨z,nm,true,(k:Int),t⟩:=⟨h1.1.setCell ⟨w4.heap.size,4,none⟩ rfl _,tg,htt.setT tg⟩
     dsimp only
     refine hK.out _ _ ?_ (fun hHeld => ?_)
     ·exact h2
     clear hK K
     try simp only[Act.put,List.setIfInBounds_toArray,List.set_cons_zero,List.set_cons_succ]
     refine wpAnyH_done (by kernel_rfl) ?_ _
     have hbx:=ι (HBd.out _ h2.1)
     have A9:=ι (AtP.touch (w:=w8.drew) A8.out h2.1 hgb)
     generalize v1.setCell ⟨w4.heap.size,4,none⟩ (.int .i64 tg)=v2 at *
     have PX:Hid (AtP v2 w4.heap.size ⟨z,nm,true,(k:Int),tg⟩):=ι PX.out
     go_wp2_with (first|(refine a1o rfl (.tmp 10) rfl w4.heap.size rfl ⟨z,nm,true,(k:Int),tg⟩ PX.out ?_)|(refine a0x rfl (.tmp 4) (.tmp 69) rfl rfl w.heap.size ⟨z,nm,true,(k:Int),tg⟩ plc0 rfl rfl A9.out ?_;intro w9 hA hB;have AA:=ι hA;have BB:=ι (hbx.out.trans hB);clear hA hB))
     exact a8a rfl w.heap.size ⟨z,nm,true,(k:Int),tg⟩ (.int .i64 0) rfl rfl AA.out rfl ⟨by rw[HR.out],BB.out⟩
   ·rw[if_pos hk] at HV
    subst HV
    have HI2:Hid (∀w',Below w.heap.size w w'→Calls Tryz.prog 129 #[.pointer (some ⟨g,0,none⟩),.int .i64 z] w' fun e w''=>e = .returned (.bool false)∧Below w'.heap.size w' w''):=ι fun w' hb=>by
     have h:=HI.out w' hb
     rw[decide_eq_false hk] at h
     exact h
    clear HI
    go_enter Tryz.func117,Tryz.ntmps117
    go_upto_region 1 with fail
    clear hW1
    go_wp2_with (first
     | (go_at_call 47;refine(HM.out _ B1.out).mono ?_;rintro e wm ⟨rfl,hwm⟩;obtain rfl:=hwm)
     | (go_at_call 128;refine(HP.out _ B1.out).mono ?_;rintro e w2 ⟨rfl,hb⟩;have B2:=ι (a0b B1.out hb);have A2:=ι (A1.out.later hb);have c2:=(HK.out.later B2.out).row.disk;clear hb)
     | (go_at_call 82;refine(HL.out _ B2.out).mono ?_;rintro e w3 ⟨rfl,hb⟩;have B3:=ι (a0b B2.out hb);have A3:=ι (A2.out.later hb);clear hb)
     | (go_at_call 129;refine(HI2.out _ B3.out).mono ?_;rintro e w4 ⟨rfl,hb⟩;have B4:=ι (a0b B3.out hb);have A4:=ι (A3.out.later hb);clear hb)
     | (refine a0x rfl (.tmp 4) (.tmp 42) rfl rfl w.heap.size plc0 plc0 rfl rfl A4.out ?_;intro w5 hA hB;have A5:=ι hA;have B5:=ι (B4.out.trans hB);clear hA hB))
    exact a8a rfl w.heap.size plc0 (.int .i64 6) rfl rfl A5.out rfl ⟨rfl,B5.out⟩
  ·rw[if_pos he2] at HV
   subst HV
   have hne:(e2 != 0)=true:=by simpa using he2
   clear HI
   go_enter Tryz.func117,Tryz.ntmps117
   go_upto_region 1 with fail
   clear hW1
   go_wp2_with (first
    | (go_at_call 47;refine(HM.out _ B1.out).mono ?_;rintro e wm ⟨rfl,hwm⟩;obtain rfl:=hwm)
    | (go_at_call 128;refine(HP.out _ B1.out).mono ?_;rintro e w2 ⟨rfl,hb⟩;have B2:=ι (a0b B1.out hb);have A2:=ι (A1.out.later hb);have c2:=(HK.out.later B2.out).row.disk;clear hb)
    | (go_at_call 82;refine(HL.out _ B2.out).mono ?_;rintro e w3 ⟨rfl,hb⟩;have B3:=ι (a0b B2.out hb);have A3:=ι (A2.out.later hb);clear hb)
    | (refine a0x rfl (.tmp 4) (.tmp 36) rfl rfl w.heap.size plc0 plc0 rfl rfl A3.out ?_;intro w5 hA hB;have A5:=ι hA;have B5:=ι (B3.out.trans hB);clear hA hB))
   exact a8a rfl w.heap.size plc0 (.int .i64 e2) rfl rfl A5.out rfl ⟨rfl,B5.out⟩
 ·rw[if_pos he1] at HV
  subst HV
  have hne:(e1 != 0)=true:=by simpa using he1
  clear HI
  go_enter Tryz.func117,Tryz.ntmps117
  go_upto_region 1 with fail
  clear hW1
  go_wp2_with (first
   | (go_at_call 47;refine(HM.out _ B1.out).mono ?_;rintro e wm ⟨rfl,hwm⟩;obtain rfl:=hwm)
   | (go_at_call 128;refine(HP.out _ B1.out).mono ?_;rintro e w2 ⟨rfl,hb⟩;have B2:=ι (a0b B1.out hb);have A2:=ι (A1.out.later hb);have c2:=(HK.out.later B2.out).row.disk;clear hb)
   | (refine a0x rfl (.tmp 4) (.tmp 23) rfl rfl w.heap.size plc0 plc0 rfl rfl A2.out ?_;intro w5 hA hB;have A5:=ι hA;have B5:=ι (B2.out.trans hB);clear hA hB))
  exact a8a rfl w.heap.size plc0 (.int .i64 e1) rfl rfl A5.out rfl ⟨rfl,B5.out⟩
end fs
namespace fs
set_option maxRecDepth 100000
open Go.ChangeShapes Go.WideShapes Go.ChangeAt Go.RowKit
open rows
open sec
open dsk (size_alloc Wr w0 a0n a3t)
open ly
open pa
open lk
open al
set_option maxRecDepth 100000 in
set_option maxHeartbeats 1600000 in
theorem ffile(w:World)(g:Nat)(d:Value)(ss:List (List Int))(s:ByteArray)(h:FK w g d ss)(hm:Mx w)(hsz:s.size≤100000) :
  Calls Tryz.prog 36 #[.pointer (some ⟨g,0,none⟩),.string s] w (Rt w (fileT (fileV ss s))):=by
 have HK:=ι h
 have HM:=ι fun w' (hb:Below w.heap.size w w')=>fmade g w' (h.row.later hb).self
 have HL:=ι fun w' (hb:Below w.heap.size w w')=>a9e w' d ss s (hm.later hb) (h.dk.later hb) hsz
 obtain⟨hz0,hz1⟩:=a6u h.dk.secs.1 (bys s)
 have HI:=ι fun w' (hb:Below w.heap.size w w')=>a4a w' d ss (lookV ss (bys s)).1 (h.dk.later hb) (a0f (by omega))
 have H4:=ι (a0q h.dk.secs.1 (lookV ss (bys s)).1)
 obtain⟨V,HV⟩:∃V,fileV ss s=V:=⟨_,rfl⟩
 rw[HV]
 unfold fileV at HV
 unfold lookT at HL
 generalize lookV ss (bys s)=lv at *
 obtain⟨z,e2⟩:=lv
 simp only at HL HI H4 HV hz0 hz1
 generalize inoAt ss z=y at *
 obtain⟨kd,sz,bl⟩:=y
 simp only at HV
 obtain⟨W1,hW1⟩:∃W1,w.alloc (.cells #[.int .i64 0,.int .i64 0,.int .i64 0,.int .i64 0,.int .i64 0,.int .i64 0] 75)=W1:=⟨_,rfl⟩
 have A1:Hid (AtI W1 w.heap.size ino0):=ι (by rw[← hW1];exact heap_alloc_new _ _)
 have B1:Hid (Below w.heap.size w W1):=ι (by rw[← hW1];exact a0a (Below.refl _ _) _)
 have c1:=(HK.out.later B1.out).row.disk
 clear h hm hsz hz0 hz1
 by_cases he2:e2=0
 ·subst he2
  rw[if_neg (by simp)] at HV
  by_cases hk:kd=1
  ·subst hk
   rw[if_neg (by simp)] at HV
   subst HV
   go_enter Tryz.func36,Tryz.ntmps36
   go_upto_region 1 with fail
   clear hW1
   go_upto_region 7 with(first
    | (go_at_call 47;refine(HM.out _ B1.out).mono ?_;rintro e wm ⟨rfl,hwm⟩;obtain rfl:=hwm)
    | (go_at_call 82;refine(HL.out _ B1.out).mono ?_;rintro e w2 ⟨rfl,hb⟩;have B2:=ι (a0b B1.out hb);have A2:=ι (A1.out.later hb);have c2:=(HK.out.later B2.out).row.disk;clear hb)
    | (go_at_call 83;refine(HI.out _ B2.out).mono ?_;rintro e w3 ⟨rfl,hb⟩;have B3:=ι (a0b B2.out hb);have A3:=ι (A2.out.later hb);clear hb)
    | (refine a0m rfl (.tmp 9) (.tmp 32) rfl rfl w3.heap.size ⟨1,sz,bl⟩ ino0 rfl rfl H4.out rfl (a1s w3) ?_;intro w4 hA hB _;have hb:=(a0a (Below.refl _ w3) _).trans hB;have B4:=ι (a0b B3.out hb);have A4:=ι (A3.out.later hb);have X4:=ι hA;clear hA hB hb))
   have hc0:=X4.out.cell0
   simp only at hc0
   go_upto_region 9 with fail
   have hgb:w3.heap.size≠w.heap.size:=by
    have h1:=A3.out
    unfold AtI at h1
    have:=(Array.getElem?_eq_some_iff.1 h1).1
    omega
   have h0:=dsk.Touch.refl (fun k=>k=w.heap.size) w4.drew
   have HX:=ι fun w' (hw:dsk.Touch (fun k=>k=w.heap.size) w4.drew w')=>show AtI w' w3.heap.size ⟨1,sz,bl⟩ from(hw.block _ (Array.getElem?_eq_some_iff.1 X4.out).1 hgb).trans X4.out
   have A4d:Hid (AtI w4.drew w.heap.size ino0):=A4
   clear hc0 c1 c2
   refine wp_region_held_drew (S:=dsk.Touch (fun k=>k=w.heap.size) w4.drew) (by kernel_rfl) h0 (fun hH0 => ?_)
   refine tk 0 rfl ?_
   refine tkv 1 rfl (ld_ino (by rfl) (.tmp 9) rfl w3.heap.size rfl ⟨1,sz,bl⟩ H4.out (fun w' hw=>HX.out w' hw)) ?_
   refine tk 2 rfl ?_
   refine rd 3 rfl (fun K hK => ?_)
   refine b6z (by rfl) (.tmp 5) (.tmp 38) rfl w.heap.size rfl ⟨1,sz,bl⟩ rfl H4.out ino0 rfl A4d.out ?_
   intro v1 hA1 hT1
   have AF:=ι hA1
   have h1:=hT1
   dsimp only
   refine hK.out _ _ ?_ (fun hHeld => ?_)
   ·exact h1
   clear hK K
   try simp only[Act.put,List.setIfInBounds_toArray,List.set_cons_zero,List.set_cons_succ]
   refine tk 4 rfl ?_
   refine wpAnyH_done (by kernel_rfl) ?_ _
   go_wp2_with fail
   exact b5q rfl w.heap.size ⟨1,sz,bl⟩ (.int .i64 z) (.int .i64 0) rfl rfl rfl H4.out AF.out rfl ⟨rfl,B4.out.trans ((Below.refl w.heap.size w4).drew.trans (dsk.Touch.below h1 (by have:=B4.out.size;exact this) (fun i hi=>by omega)))⟩
  ·rw[if_pos hk] at HV
   subst HV
   have hne:(kd != 1)=true:=by simpa using hk
   go_enter Tryz.func36,Tryz.ntmps36
   go_upto_region 1 with fail
   clear hW1
   go_upto_region 7 with(first
    | (go_at_call 47;refine(HM.out _ B1.out).mono ?_;rintro e wm ⟨rfl,hwm⟩;obtain rfl:=hwm)
    | (go_at_call 82;refine(HL.out _ B1.out).mono ?_;rintro e w2 ⟨rfl,hb⟩;have B2:=ι (a0b B1.out hb);have A2:=ι (A1.out.later hb);have c2:=(HK.out.later B2.out).row.disk;clear hb)
    | (go_at_call 83;refine(HI.out _ B2.out).mono ?_;rintro e w3 ⟨rfl,hb⟩;have B3:=ι (a0b B2.out hb);have A3:=ι (A2.out.later hb);clear hb)
    | (refine a0m rfl (.tmp 9) (.tmp 32) rfl rfl w3.heap.size ⟨kd,sz,bl⟩ ino0 rfl rfl H4.out rfl (a1s w3) ?_;intro w4 hA hB _;have hb:=(a0a (Below.refl _ w3) _).trans hB;have B4:=ι (a0b B3.out hb);have A4:=ι (A3.out.later hb);have X4:=ι hA;clear hA hB hb))
   have hc0:=X4.out.cell0
   simp only at hc0
   go_wp2_with (refine a0m rfl (.tmp 5) (.tmp 36) rfl rfl w.heap.size ino0 ino0 rfl rfl rfl rfl A4.out ?_;intro w5 hA hB _;have A5:=ι hA;have B5:=ι (B4.out.trans hB);clear hA hB)
   exact b5q rfl w.heap.size ino0 (.int .i64 0) (.int .i64 6) rfl rfl rfl rfl A5.out rfl ⟨rfl,B5.out⟩
 ·rw[if_pos he2] at HV
  subst HV
  have hne:(e2 != 0)=true:=by simpa using he2
  go_enter Tryz.func36,Tryz.ntmps36
  go_upto_region 1 with fail
  clear hW1
  go_wp2_with (first
   | (go_at_call 47;refine(HM.out _ B1.out).mono ?_;rintro e wm ⟨rfl,hwm⟩;obtain rfl:=hwm)
   | (go_at_call 82;refine(HL.out _ B1.out).mono ?_;rintro e w2 ⟨rfl,hb⟩;have B2:=ι (a0b B1.out hb);have A2:=ι (A1.out.later hb);clear hb)
   | (refine a0m rfl (.tmp 5) (.tmp 25) rfl rfl w.heap.size ino0 ino0 rfl rfl rfl rfl A2.out ?_;intro w5 hA hB _;have A5:=ι hA;have B5:=ι (B2.out.trans hB);clear hA hB))
  exact b5q rfl w.heap.size ino0 (.int .i64 0) (.int .i64 e2) rfl rfl rfl rfl A5.out rfl ⟨rfl,B5.out⟩
def contV(ss:List (List Int))(b:Int):List Int:=if b=0 then zero32 else secAt ss (40+b)
theorem a5z{ss:List (List Int)}(hs:Secs ss)(b:Int):Sec (contV ss b):=by
 unfold contV
 split
 ·exact a0i
 ·exact a1e hs _
set_option maxRecDepth 100000 in
set_option maxHeartbeats 1600000 in
theorem fcontent(w:World)(g:Nat)(d:Value)(ss:List (List Int))(b:Int)(h:FK w g d ss)(hb:0≤b∧b≤200) :
  Calls Tryz.prog 38 #[.pointer (some ⟨g,0,none⟩),.int .i64 b] w (Rt w (agg (contV ss b))):=by
 obtain⟨W1,hW1⟩:∃W1,w.alloc (.cells #[Value.int IntKind.u8 0,Value.int IntKind.u8 0,Value.int IntKind.u8 0,Value.int IntKind.u8 0,Value.int IntKind.u8 0,Value.int IntKind.u8 0,Value.int IntKind.u8 0,Value.int IntKind.u8 0,Value.int IntKind.u8 0,Value.int IntKind.u8 0,Value.int IntKind.u8 0,Value.int IntKind.u8 0,Value.int IntKind.u8 0,Value.int IntKind.u8 0,Value.int IntKind.u8 0,Value.int IntKind.u8 0,Value.int IntKind.u8 0,Value.int IntKind.u8 0,Value.int IntKind.u8 0,Value.int IntKind.u8 0,Value.int IntKind.u8 0,Value.int IntKind.u8 0,Value.int IntKind.u8 0,Value.int IntKind.u8 0,Value.int IntKind.u8 0,Value.int IntKind.u8 0,Value.int IntKind.u8 0,Value.int IntKind.u8 0,Value.int IntKind.u8 0,Value.int IntKind.u8 0,Value.int IntKind.u8 0,Value.int IntKind.u8 0] 65)=W1:=⟨_,rfl⟩
 have A1:Hid (At W1 w.heap.size zero32):=ι (by rw[← hW1];exact a1n w)
 have B1:Hid (Below w.heap.size w W1):=ι (by rw[← hW1];exact a0a (Below.refl _ _) _)
 by_cases hb0:b=0
 ·have e:contV ss b=zero32:=by rw[contV,if_pos hb0]
  rw[e]
  subst hb0
  clear h hb e
  go_enter Tryz.func38,Tryz.ntmps38
  go_upto_region 1 with fail
  clear hW1
  go_wp2_with (refine a0k rfl (.tmp 4) (.tmp 9) rfl rfl w.heap.size zero32 zero32 rfl (congrArg Value.agg a1k) (by decide) (by decide) A1.out ?_;intro w5 hA hB _;have A5:=ι hA;have B5:=ι (B1.out.trans hB);clear hA hB)
  exact a5k rfl w.heap.size zero32 rfl (by decide) A5.out rfl ⟨rfl,B5.out⟩
 ·have e:contV ss b=secAt ss (40+b):=by rw[contV,if_neg hb0]
  rw[e]
  have HS:=ι fun w'=>fsector b (by omega) w'
  have HR:=ι fun w' (hbb:Below w.heap.size w w')=>dread w' d ss (40+b) (h.dk.later hbb) (WalkArith.wf_i64 (by omega))
  have HX:=ι (a1e h.dk.secs.1 (40+b))
  have F1:=ι (h.later B1.out).row
  have hbe:(b == 0)=false:=beq_eq_false_iff_ne.2 hb0
  generalize (if 0≤40+b∧40+b<(ss.length:Int) then (0:Int) else 1)=r at *
  generalize secAt ss (40+b)=x at *
  clear h hb e hb0
  go_enter Tryz.func38,Tryz.ntmps38
  go_upto_region 1 with fail
  clear hW1
  go_upto_region 3 with fail
  have h0:Below W1.drew.heap.size W1.drew W1.drew:=Below.refl _ _
  have ZS:Hid ((Tryz.prog.info? 65).map (·.zero)=some (some (.agg (u8s zero32).toArray))):=ι (by kernel_rfl)
  have HPD:=ι fun v (hv:Below W1.drew.heap.size W1.drew v)=>(FR.later (w:=W1.drew) F1.out hv).disk
  have HBd:Hid (∀v,Below W1.drew.heap.size W1.drew v→Below w.heap.size w v):=ι fun v hv=>a0b B1.out (((Below.refl W1.heap.size W1).drew).trans hv)
  refine wp_region_held_drew (S:=Below W1.drew.heap.size W1.drew) (by kernel_rfl) h0 (fun hH0 => ?_)
  refine tk 0 rfl ?_
  refine tk 1 rfl ?_
  refine tk 2 rfl ?_
  refine tkv 3 rfl (a0n (by rfl) 45 _ Tryz.underlying45 rfl _ rfl g 1 rfl _ (fun w' hw=>HPD.out w' hw)) ?_
  refine tk 4 rfl ?_
  refine wpAnyH_ready (rs:=[5,10]) (by kernel_rfl) (by simp) ?_
  refine AllReadyH.cons (o:={ dst:=some 16,op:=Op.call { callee:=Callee.value (Operand.func 84),args := #[Operand.tmp 15],argTypes := #[3] },type:=3,pos := "bytes.go:104", after := #[{ on:=4,ground:=Ground.data }],guard:=none }) rfl (fun K hK => ?_) (AllReadyH.cons (o:={ dst:=some 5,op:=Op.alloc 65,type:=0,pos := "bytes.go:104", after := #[],guard:=none }) rfl (fun K hK => ?_) AllReadyH.nil)
  ·go_simp
   refine(HS.out _).mono ?_
   rintro e v1 ⟨rfl,hv1⟩
   obtain rfl:=hv1
   have h1:=h0
   dsimp only
   refine hK.out _ _ ?_ (fun hHeld => ?_)
   ·exact h1
   clear hK K
   try simp only[Act.put,List.setIfInBounds_toArray,List.set_cons_zero,List.set_cons_succ]
   refine wpAnyH_ready (rs:=[6,10]) (by kernel_rfl) (by simp) ?_
   refine AllReadyH.cons (o:={ dst:=some 17,op:=Op.call { callee:=Callee.value (Operand.func 74),args := #[Operand.tmp 14,Operand.tmp 16],argTypes := #[45,3] },type:=132,pos := "bytes.go:104", after := #[{ on:=3,ground:=Ground.data },{ on:=5,ground:=Ground.data },{ on:=5,ground:=Ground.chain }],guard:=none }) rfl (fun K hK => ?_) (AllReadyH.cons (o:={ dst:=some 5,op:=Op.alloc 65,type:=0,pos := "bytes.go:104", after := #[],guard:=none }) rfl (fun K hK => ?_) AllReadyH.nil)
   ·go_simp
    refine(HR.out _ (HBd.out _ h1)).mono ?_
    rintro e v2 ⟨rfl,hv2⟩
    have h2:=h1.trans (hv2.mono h1.size)
    try have AB:=ι (AB.out.later hv2)
    dsimp only
    refine hK.out _ _ ?_ (fun hHeld => ?_)
    ·exact h2
    clear hK K
    try simp only[Act.put,List.setIfInBounds_toArray,List.set_cons_zero,List.set_cons_succ]
    refine tk 7 rfl ?_
    refine tk 8 rfl ?_
    refine tk 9 rfl ?_
    refine rd 10 rfl (fun K hK => ?_)
    refine a3t (z:=u8s zero32) ZS.out (by rfl) rfl ?_
    intro gb v3 hg3 ha3 hv3
    have h3:=h2.trans (hv3.mono h2.size)
    have AB:Hid (At v3 gb zero32):=ι ha3
    have GB:=ι (Nat.le_trans h2.size hg3)
    dsimp only
    refine hK.out _ _ ?_ (fun hHeld => ?_)
    ·exact h3
    clear hK K
    try simp only[Act.put,List.setIfInBounds_toArray,List.set_cons_zero,List.set_cons_succ]
    refine rd 11 rfl (fun K hK => ?_)
    refine a8s (by rfl) (.tmp 5) (.tmp 18) rfl gb rfl x rfl HX.out.1 zero32 (by decide) AB.out ?_
    have AX:=ι (show At _ gb x from setRow_heap _ gb _ _ _ _ AB.out)
    have h4:=below_setRow h3 GB.out (u8s x).toArray
    dsimp only
    refine hK.out _ _ ?_ (fun hHeld => ?_)
    ·exact h4
    clear hK K
    try simp only[Act.put,List.setIfInBounds_toArray,List.set_cons_zero,List.set_cons_succ]
    refine tk 12 rfl ?_
    refine wpAnyH_done (by kernel_rfl) ?_ _
    have A3:Hid (At _ w.heap.size zero32):=ι (At.later (w:=W1.drew) A1.out h4)
    have B3:=ι (HBd.out _ h4)
    go_wp2_with (first|(refine a1v rfl (.tmp 5) rfl gb rfl x HX.out.1 AX.out ?_)|(refine a0k rfl (.tmp 4) (.tmp 20) rfl rfl w.heap.size x zero32 rfl rfl HX.out.1 (by decide) A3.out ?_;intro w5 hA hB _;have A5:=ι hA;have B5:=ι (B3.out.trans hB);clear hA hB))
    exact a5k rfl w.heap.size x rfl HX.out.1 A5.out rfl ⟨rfl,B5.out⟩
   ·refine a3t (z:=u8s zero32) ZS.out (by rfl) rfl ?_
    intro gb v5 hg5 ha5 hv5
    have h5:=h1.trans (hv5.mono h1.size)
    have AB:Hid (At v5 gb zero32):=ι ha5
    have GB:=ι (Nat.le_trans h1.size hg5)
    dsimp only
    refine hK.out _ _ ?_ (fun hHeld => ?_)
    ·exact h5
    clear hK K
    try simp only[Act.put,List.setIfInBounds_toArray,List.set_cons_zero,List.set_cons_succ]
    refine rd 6 rfl (fun K hK => ?_)
    go_simp
    refine(HR.out _ (HBd.out _ h5)).mono ?_
    rintro e v6 ⟨rfl,hv6⟩
    have h6:=h5.trans (hv6.mono h5.size)
    try have AB:=ι (AB.out.later hv6)
    dsimp only
    refine hK.out _ _ ?_ (fun hHeld => ?_)
    ·exact h6
    clear hK K
    try simp only[Act.put,List.setIfInBounds_toArray,List.set_cons_zero,List.set_cons_succ]
    refine tk 7 rfl ?_
    refine tk 8 rfl ?_
    refine tk 9 rfl ?_
    refine rd 11 rfl (fun K hK => ?_)
    refine a8s (by rfl) (.tmp 5) (.tmp 18) rfl gb rfl x rfl HX.out.1 zero32 (by decide) AB.out ?_
    have AX:=ι (show At _ gb x from setRow_heap _ gb _ _ _ _ AB.out)
    have h7:=below_setRow h6 GB.out (u8s x).toArray
    dsimp only
    refine hK.out _ _ ?_ (fun hHeld => ?_)
    ·exact h7
    clear hK K
    try simp only[Act.put,List.setIfInBounds_toArray,List.set_cons_zero,List.set_cons_succ]
    refine tk 12 rfl ?_
    refine wpAnyH_done (by kernel_rfl) ?_ _
    have A3:Hid (At _ w.heap.size zero32):=ι (At.later (w:=W1.drew) A1.out h7)
    have B3:=ι (HBd.out _ h7)
    go_wp2_with (first|(refine a1v rfl (.tmp 5) rfl gb rfl x HX.out.1 AX.out ?_)|(refine a0k rfl (.tmp 4) (.tmp 20) rfl rfl w.heap.size x zero32 rfl rfl HX.out.1 (by decide) A3.out ?_;intro w5 hA hB _;have A5:=ι hA;have B5:=ι (B3.out.trans hB);clear hA hB))
    exact a5k rfl w.heap.size x rfl HX.out.1 A5.out rfl ⟨rfl,B5.out⟩
  ·refine a3t (z:=u8s zero32) ZS.out (by rfl) rfl ?_
   intro gb v8 hg8 ha8 hv8
   have h8:=h0.trans (hv8.mono h0.size)
   have AB:Hid (At v8 gb zero32):=ι ha8
   have GB:=ι (Nat.le_trans h0.size hg8)
   dsimp only
   refine hK.out _ _ ?_ (fun hHeld => ?_)
   ·exact h8
   clear hK K
   try simp only[Act.put,List.setIfInBounds_toArray,List.set_cons_zero,List.set_cons_succ]
   refine rd 5 rfl (fun K hK => ?_)
   go_simp
   refine(HS.out _).mono ?_
   rintro e v9 ⟨rfl,hv9⟩
   obtain rfl:=hv9
   have h9:=h8
   dsimp only
   refine hK.out _ _ ?_ (fun hHeld => ?_)
   ·exact h9
   clear hK K
   try simp only[Act.put,List.setIfInBounds_toArray,List.set_cons_zero,List.set_cons_succ]
   refine rd 6 rfl (fun K hK => ?_)
   go_simp
   refine(HR.out _ (HBd.out _ h9)).mono ?_
   rintro e v10 ⟨rfl,hv10⟩
   have h10:=h9.trans (hv10.mono h9.size)
   try have AB:=ι (AB.out.later hv10)
   dsimp only
   refine hK.out _ _ ?_ (fun hHeld => ?_)
   ·exact h10
   clear hK K
   try simp only[Act.put,List.setIfInBounds_toArray,List.set_cons_zero,List.set_cons_succ]
   refine tk 7 rfl ?_
   refine tk 8 rfl ?_
   refine tk 9 rfl ?_
   refine rd 11 rfl (fun K hK => ?_)
   refine a8s (by rfl) (.tmp 5) (.tmp 18) rfl gb rfl x rfl HX.out.1 zero32 (by decide) AB.out ?_
   have AX:=ι (show At _ gb x from setRow_heap _ gb _ _ _ _ AB.out)
   have h11:=below_setRow h10 GB.out (u8s x).toArray
   dsimp only
   refine hK.out _ _ ?_ (fun hHeld => ?_)
   ·exact h11
   clear hK K
   try simp only[Act.put,List.setIfInBounds_toArray,List.set_cons_zero,List.set_cons_succ]
   refine tk 12 rfl ?_
   refine wpAnyH_done (by kernel_rfl) ?_ _
   have A3:Hid (At _ w.heap.size zero32):=ι (At.later (w:=W1.drew) A1.out h11)
   have B3:=ι (HBd.out _ h11)
   go_wp2_with (first|(refine a1v rfl (.tmp 5) rfl gb rfl x HX.out.1 AX.out ?_)|(refine a0k rfl (.tmp 4) (.tmp 20) rfl rfl w.heap.size x zero32 rfl rfl HX.out.1 (by decide) A3.out ?_;intro w5 hA hB _;have A5:=ι hA;have B5:=ι (B3.out.trans hB);clear hA hB))
   exact a5k rfl w.heap.size x rfl HX.out.1 A5.out rfl ⟨rfl,B5.out⟩
set_option maxRecDepth 100000 in
set_option maxHeartbeats 1600000 in
theorem fblockStep(n b:Int)(hb:0≤b∧b≤200)(s:List Int)(hs:Sec s)(w:World):Calls Tryz.prog 172 #[.int .i64 n,.int .i64 b,agg s] w (Rt w (aggT ⟨40+b,s,1,n,0⟩ false)):=by
 have HS:=ι hs
 have HB:=ι fun w'=>fsector b (by omega) w'
 have HT:=ι fun w'=>fstepTo (40+b) s hs 1 n w'
 have HX:=ι (show Sec (⟨40+b,s,1,n,0⟩:Wr).s from hs)
 generalize (⟨40+b,s,1,n,0⟩:Wr)=X at *
 have a0:At ((w.alloc (.cells (u8s s).toArray 65)).alloc (.cells #[Value.int IntKind.i64 0,Value.int IntKind.u8 0,Value.int IntKind.u8 0,Value.int IntKind.u8 0,Value.int IntKind.u8 0,Value.int IntKind.u8 0,Value.int IntKind.u8 0,Value.int IntKind.u8 0,Value.int IntKind.u8 0,Value.int IntKind.u8 0,Value.int IntKind.u8 0,Value.int IntKind.u8 0,Value.int IntKind.u8 0,Value.int IntKind.u8 0,Value.int IntKind.u8 0,Value.int IntKind.u8 0,Value.int IntKind.u8 0,Value.int IntKind.u8 0,Value.int IntKind.u8 0,Value.int IntKind.u8 0,Value.int IntKind.u8 0,Value.int IntKind.u8 0,Value.int IntKind.u8 0,Value.int IntKind.u8 0,Value.int IntKind.u8 0,Value.int IntKind.u8 0,Value.int IntKind.u8 0,Value.int IntKind.u8 0,Value.int IntKind.u8 0,Value.int IntKind.u8 0,Value.int IntKind.u8 0,Value.int IntKind.u8 0,Value.int IntKind.u8 0,Value.int IntKind.i64 0,Value.int IntKind.i64 0,Value.int IntKind.i64 0,Value.bool false] 187)) w.heap.size s:=(at_new w s).later (a0a (Below.refl _ _) _)
 have a2:=a1z (w.alloc (.cells (u8s s).toArray 65))
 rw[World.size_alloc] at a2
 have hbw:=a0a (a0a (Below.refl w.heap.size w) (.cells (u8s s).toArray 65)) (.cells #[Value.int IntKind.i64 0,Value.int IntKind.u8 0,Value.int IntKind.u8 0,Value.int IntKind.u8 0,Value.int IntKind.u8 0,Value.int IntKind.u8 0,Value.int IntKind.u8 0,Value.int IntKind.u8 0,Value.int IntKind.u8 0,Value.int IntKind.u8 0,Value.int IntKind.u8 0,Value.int IntKind.u8 0,Value.int IntKind.u8 0,Value.int IntKind.u8 0,Value.int IntKind.u8 0,Value.int IntKind.u8 0,Value.int IntKind.u8 0,Value.int IntKind.u8 0,Value.int IntKind.u8 0,Value.int IntKind.u8 0,Value.int IntKind.u8 0,Value.int IntKind.u8 0,Value.int IntKind.u8 0,Value.int IntKind.u8 0,Value.int IntKind.u8 0,Value.int IntKind.u8 0,Value.int IntKind.u8 0,Value.int IntKind.u8 0,Value.int IntKind.u8 0,Value.int IntKind.u8 0,Value.int IntKind.u8 0,Value.int IntKind.u8 0,Value.int IntKind.u8 0,Value.int IntKind.i64 0,Value.int IntKind.i64 0,Value.int IntKind.i64 0,Value.bool false] 187)
 obtain⟨W,hW⟩:∃W,(w.alloc (.cells (u8s s).toArray 65)).alloc (.cells #[Value.int IntKind.i64 0,Value.int IntKind.u8 0,Value.int IntKind.u8 0,Value.int IntKind.u8 0,Value.int IntKind.u8 0,Value.int IntKind.u8 0,Value.int IntKind.u8 0,Value.int IntKind.u8 0,Value.int IntKind.u8 0,Value.int IntKind.u8 0,Value.int IntKind.u8 0,Value.int IntKind.u8 0,Value.int IntKind.u8 0,Value.int IntKind.u8 0,Value.int IntKind.u8 0,Value.int IntKind.u8 0,Value.int IntKind.u8 0,Value.int IntKind.u8 0,Value.int IntKind.u8 0,Value.int IntKind.u8 0,Value.int IntKind.u8 0,Value.int IntKind.u8 0,Value.int IntKind.u8 0,Value.int IntKind.u8 0,Value.int IntKind.u8 0,Value.int IntKind.u8 0,Value.int IntKind.u8 0,Value.int IntKind.u8 0,Value.int IntKind.u8 0,Value.int IntKind.u8 0,Value.int IntKind.u8 0,Value.int IntKind.u8 0,Value.int IntKind.u8 0,Value.int IntKind.i64 0,Value.int IntKind.i64 0,Value.int IntKind.i64 0,Value.bool false] 187)=W:=⟨_,rfl⟩
 rw[hW] at hbw a0 a2
 have HB0:=ι hbw
 have A0:=ι a0
 have A2:=ι a2
 clear hs hbw a0 a2 hb
 go_enter Tryz.func172,Tryz.ntmps172
 go_upto_region 1 with fail
 try rw[hW]
 clear hW
 have h0:dsk.Touch (fun k=>k=w.heap.size+1) W.drew W.drew:=dsk.Touch.refl _ _
 have HAT:=ι fun v (hv:dsk.Touch (fun k=>k=w.heap.size+1) W.drew v)=>(show At v w.heap.size s from(hv.block _ (Array.getElem?_eq_some_iff.1 A0.out).1 (by omega)).trans A0.out)
 refine wp_region_held_drew (S:=dsk.Touch (fun k=>k=w.heap.size+1) W.drew) (by kernel_rfl) h0 (fun hH0 => ?_)
 refine tk 0 rfl ?_
 refine tkv 2 rfl (a5p (by rfl) _ rfl w.heap.size 0 rfl s HS.out.1 (fun w' hw=>(HAT.out w' hw).range)) ?_
 refine tk 3 rfl ?_
 refine rd 1 rfl (fun K hK => ?_)
 go_simp
 refine(HB.out _).mono ?_
 rintro e v1 ⟨rfl,hv1⟩
 obtain rfl:=hv1
 have h1:=h0
 dsimp only
 refine hK.out _ _ ?_ (fun hHeld => ?_)
 ·exact h1
 clear hK K
 try simp only[Act.put,List.setIfInBounds_toArray,List.set_cons_zero,List.set_cons_succ]
 refine rd 4 rfl (fun K hK => ?_)
 go_simp
 refine(HT.out _).mono ?_
 rintro e v2 ⟨rfl,hv2⟩
 have h2:=h1.trans (dsk.Touch.of_below hv2)
 have AS:=ι (AtSt.later (w:=W.drew) A2.out hv2)
 have BS:=ι (HB0.out.trans (((Below.refl w.heap.size W).drew).trans (hv2.mono HB0.out.size)))
 dsimp only
 refine hK.out _ _ ?_ (fun hHeld => ?_)
 ·exact h2
 clear hK K
 try simp only[Act.put,List.setIfInBounds_toArray,List.set_cons_zero,List.set_cons_succ]
 refine rd 5 rfl (fun K hK => ?_)
 refine b5m (by rfl) (.tmp 6) (.tmp 11) rfl (w.heap.size+1) rfl X w0 false false rfl HX.out a0i AS.out ?_
 intro v3 hA3 hB3 hT3
 have X5:=ι hA3
 have B5:=ι (BS.out.trans (hB3.mono (show w.heap.size≤w.heap.size+1 by omega)))
 have h3:dsk.Touch (fun k=>k=w.heap.size+1) W.drew v3:=h2.trans hT3
 dsimp only
 refine hK.out _ _ ?_ (fun hHeld => ?_)
 ·exact h3
 clear hK K
 try simp only[Act.put,List.setIfInBounds_toArray,List.set_cons_zero,List.set_cons_succ]
 refine wpAnyH_done (by kernel_rfl) ?_ _
 go_wp2_with fail
 exact a9h rfl (w.heap.size+1) X false rfl HX.out X5.out rfl ⟨rfl,B5.out⟩
end fs
namespace fs
set_option maxRecDepth 100000
open Go.ChangeShapes Go.WideShapes Go.ChangeAt Go.RowKit
open rows
open sec
open dsk (a0g Wr.c a0p)
open ly
open pa
open lk
open al
def contL(L:List (List Int))(b:List Int)(j:Nat):List (List Int):=(List.range j).map fun i=>contV L (b.getD i 0)
theorem c3l(L:List (List Int))(b:List Int)(j:Nat):contL L b (j+1)=contL L b j++[contV L (b.getD j 0)]:=by simp[contL,List.range_succ]
theorem a9i{L:List (List Int)}(hs:Secs L)(b:List Int)(j:Nat):Secs (contL L b j):=fun s hm=>by
 obtain⟨i,_,rfl⟩:=List.mem_map.1 hm
 exact a5z hs _
theorem c8f:∀(l:List (List Int)),(∀x∈l,x.length=32)→∀i:Nat,l.flatten[i]? = (l[i / 32]?).bind (fun x=>x[i % 32]?)
 | [],_,i=>by simp
 | x::t,h,i=>by
  have hx:=h x (List.mem_cons_self ..)
  rw[List.flatten_cons]
  by_cases hi:i<32
  ·rw[List.getElem?_append_left (by omega),show i / 32=0 by omega,show i % 32=i by omega]
   rfl
  ·rw[List.getElem?_append_right (by omega),hx,c8f t (fun y hy=>h y (List.mem_cons_of_mem _ hy)),show i / 32=(i-32) / 32+1 by omega,List.getElem?_cons_succ,show (i-32) % 32=i % 32 by omega]
theorem c0a{L:List (List Int)}(hs:Secs L)(x:Ino)(zn nd:Nat)(hz:x.size=(zn:Int))(hnd:zn≤32 * nd)(hb:∀i:Nat,(i:Int)<zn→1≤x.b.getD (i / 32) 0∧x.b.getD (i / 32) 0≤24):(contL L x.b nd).flatten.take zn=readL L x:=by
 have hc:=a9i hs x.b nd
 have hlen:(contL L x.b nd).flatten.length=nd * 32:=by
  have:=a0r hc
  rw[cellsOf,u8s,List.length_map,show (contL L x.b nd).length=nd by simp[contL]] at this
  exact this
 apply List.ext_getElem?
 intro i
 by_cases hi:i<zn
 ·rw[List.getElem?_take_of_lt hi,c8f _ (fun y hy=>(hc y hy).1)]
  have h1:i / 32<nd:=by omega
  have h2:(contL L x.b nd)[i / 32]? = some (contV L (x.b.getD (i / 32) 0)):=by simp[contL,h1]
  have hbi:=hb i (by omega)
  have h4:(readL L x)[i]? = some (byteAt L x i):=by simp[readL,hz,hi]
  rw[show byteAt L x i=(L.getD (40+(x.b.getD (i / 32) 0).toNat) zero32).getD (i % 32) 0 from rfl] at h4
  generalize x.b.getD (i / 32) 0=bb at *
  have h3:contV L bb=L.getD (40+bb.toNat) zero32:=by
   rw[contV,if_neg (by omega),secAt]
   split
   ·rw[show (40+bb).toNat=40+bb.toNat by omega]
   ·rename_i hh
    have:L.length≤40+bb.toNat:=by omega
    simp only[List.getD,List.getElem?_eq_none this,Option.getD_none]
  have hsec:=a5z hs bb
  rw[h2,h4,Option.bind_some,← h3]
  generalize contV L bb=cc at *
  have hm:i % 32<cc.length:=by rw[hsec.1];omega
  rw[List.getElem?_eq_getElem hm]
  simp only[List.getD,List.getElem?_eq_getElem hm,Option.getD_some]
 ·rw[List.getElem?_eq_none (by rw[List.length_take,hlen];omega),List.getElem?_eq_none (by simp[readL,hz];omega)]
set_option maxRecDepth 100000 in
set_option maxHeartbeats 3200000 in
theorem freadN(w:World)(g:Nat)(d:Value)(ss:List (List Int))(s:ByteArray)(h:FK w g d ss)(hm:Mx w)(hsz:s.size≤100000) :
  Calls Tryz.prog 10 #[.pointer (some ⟨g,0,none⟩),.string s] w fun e w'=>∃p n c,e = .returned (.tuple #[.slice p n c,.int .i64 (readV ss s).2])∧n=(readV ss s).1.length∧Rd w' 1 (.slice p n c) n ((readV ss s).1.map (Value.int .u8))∧Below w.heap.size w w'∧∀a,p=some a→w.heap.size≤a.block:=by
 have HK:=ι h
 have hs:=h.dk.secs.1
 have HF:=ι (ffile w g d ss s h hm hsz)
 have hfo:=file_ok hs s
 have H4:=ι (a4k hs s)
 obtain⟨V,HV⟩:∃V,readV ss s=V:=⟨_,rfl⟩
 rw[HV]
 unfold readV at HV
 unfold fileT at HF
 generalize fileV ss s=fv at *
 obtain⟨z,x,e2⟩:=fv
 simp only at HF HV hfo H4
 by_cases he2:e2=0
 ·subst he2
  rw[if_neg (by simp)] at HV
  subst HV
  obtain⟨y,rfl,hk⟩:=hfo rfl
  obtain⟨f0,f1,f2⟩:=b5r hs y hk
  generalize inoAt ss y=x at *
  obtain⟨zn,hzn⟩:=Int.eq_ofNat_of_zero_le f0
  have hzi:zn≤128:=by omega
  have hnd4:need zn≤4:=by unfold need;omega
  have hnz:zn≤32 * need zn:=by unfold need;omega
  have hzd:∀j,j<need zn→32 * j<zn:=by unfold need;intro j hj;omega
  rw[hzn] at f2
  have HGR:=ι (c0a hs x zn (need zn) hzn hnz f2)
  have HRL:Hid ((readL ss x).length=zn):=ι (by simp[readL,hzn])
  have HBD:Hid (∀j,j<need zn→0≤x.b.getD j 0∧x.b.getD j 0≤200):=ι fun j hj=>by
   have:=f2 (32 * j) (by have:=hzd j hj;omega)
   rw[show 32 * j / 32=j by omega] at this
   omega
  have HNE:=ι fun w'=>frequired zn (by omega) w'
  have HSE:=ι fun j=>a9i hs x.b j
  have HSC:=ι fun b=>a5z hs b
  have HSU:=ι fun j=>c3l ss x.b j
  have HGT2:Hid (∀p c (w':World),Rd w' 32 (.slice p (need zn) c) (need zn) (cellsOf (contL ss x.b (need zn)))→Calls Tryz.prog 39 #[.slice p (need zn) c,.int .i64 (zn:Int)] w' fun e w''=>∃p' c',e = .returned (.tuple #[.slice p' zn c',.bool true])∧Rd w'' 1 (.slice p' zn c') zn (u8s (readL ss x))∧Below w'.heap.size w' w''∧∀a,p'=some a→w'.heap.size≤a.block):=ι fun p c w' hr=>by
   have h:=c3r p (need zn) c (contL ss x.b (need zn)) zn w' (a9i hs x.b _) hr hnz (by omega)
   rw[HGR.out] at h
   exact h
  generalize readL ss x=RL at *
  generalize need zn=nd at *
  have hndi:(nd:Int)≤4:=by omega
  clear h hs hfo f2 f0 f1 hk hm hsz HGR hnz hzd
  have HZ:=ι hzn
  clear hzn
  go_enter Tryz.func10,Tryz.ntmps10
  go_upto_region 5 with(first
   | (go_at_call 36;refine HF.out.mono ?_;rintro e w2 ⟨rfl,hb⟩;have B2:=ι hb;clear hb)
   | (refine a0m rfl (.tmp 7) (.tmp 19) rfl rfl w2.heap.size x ino0 rfl rfl H4.out rfl (a1s w2) ?_;intro w3 hA hB _;have B3:=ι (a0b B2.out ((a0a (Below.refl _ w2) _).trans hB));have A3:=ι hA;have c1:=hA.cell1;rw[HZ.out] at c1;clear hA hB))
  go_wp2_with (go_at_call 37;refine(HNE.out _).mono ?_;rintro e w4 ⟨rfl,hw4⟩;obtain rfl:=hw4)
  have hgl:w2.heap.size<w3.heap.size:=(Array.getElem?_eq_some_iff.1 A3.out).1
  go_loopw [9,11,30] (fun ov _ iv wr=>∃(j:Nat) (q:Option Addr) (kc:Nat),j≤nd∧iv = .int .i64 (j:Int)∧ov = .slice q j kc∧Hid (rows.Own wr w3.heap.size 65 32 (.slice q j kc) j (cellsOf (contL ss x.b j)))∧Hid (Below w3.heap.size w3 wr)) (fun _ _ iv _=>nd-(intOf iv).toNat)
  case atStart=>exact⟨0,none,0,by omega,rfl,rfl,ι (by simp[contL,cellsOf,u8s];exact a2q _ _ _ _),ι (Below.refl _ _)⟩
  case round =>
   obtain⟨j,q,kc,hj,rfl,rfl,HO,HB⟩:=hrel
   clear c1
   have AW:=ι (A3.out.later HB.out)
   by_cases hlt:j<nd
   ·have hlti:(j:Int)<nd:=by omega
    have cb:=AW.out.cellb (i:=j) (by rw[H4.out];omega)
    have hbd:=HBD.out j hlt
    have HCO:=ι fun w' (hb:Below w.heap.size w w')=>fcontent w' g d ss (x.b.getD j 0) (HK.out.later hb) hbd
    have HSX:=ι (HSC.out (x.b.getD j 0))
    have HSN:=ι (HSU.out j)
    generalize x.b.getD j 0=bj at *
    generalize contV ss bj=cs at *
    go_wp2_with (first
     | (go_at_call 38;refine(HCO.out _ (a0b B3.out HB.out)).mono ?_;rintro e w5 ⟨rfl,hb⟩;have HO5:=ι (a1g HO.out hb);have B5:=ι (a0b HB.out hb);clear hb)
     | (refine a0g elem_secs (by decide) rfl (.tmp 37) rfl (u8s cs) rfl (by simp[u8s,HSX.out.1]) ?_)
     | (at_builtin;refine b7s elem_secs rfl (.tmp 34) (.tmp 38) rfl w3.heap.size _ j _ rfl (HO5.out.alloc _) _ 1 (u8s cs) rfl (a0p _ 65 32 (u8s cs) (by simp[u8s,HSX.out.1])) (a1y .u8 _) (by omega) (by have:=B5.out.size;simp;omega) ?_;intro pa ca wa ho hb;have HO6:Hid (rows.Own wa w3.heap.size 65 32 (.slice pa (j+1) ca) (j+1) (cellsOf (contL ss x.b (j+1)))):=ι (by rw[HSN.out,a6z];simpa [cellsOf] using ho);have B6:=ι (a9s (a0a B5.out _) hb (Nat.le_refl _));clear ho hb))
    go_roundw
    case rel=>exact⟨j+1,pa,ca,by omega,by go_num,rfl,HO6,B6⟩
    case measure=>simp[intOf];omega
   ·obtain rfl:j=nd:=by omega
    have c1:=AW.out.cell1
    rw[HZ.out] at c1
    go_wp2_with (go_at_call 39;refine(HGT2.out _ _ _ HO.out.rd).mono ?_;rintro e w9 ⟨p',c',rfl,hr,hb,hnw⟩;have N9:=ι hnw;have BW:=ι (a0b B3.out HB.out);clear hnw;have R9:=ι hr;have B9:=ι (a0b (a0b B3.out HB.out) hb);clear hr hb)
    go_ret2
    exact⟨p',zn,c',rfl,HRL.out.symm,R9.out,B9.out,fun a ha=>Nat.le_trans BW.out.size (N9.out a ha)⟩
 ·rw[if_pos he2] at HV
  subst HV
  have hne:(e2 != 0)=true:=by simpa using he2
  clear hfo h hm hsz hs
  go_enter Tryz.func10,Tryz.ntmps10
  go_wp2_with (first
   | (go_at_call 36;refine HF.out.mono ?_;rintro e w2 ⟨rfl,hb⟩;have B2:=ι hb;clear hb)
   | (refine a0m rfl (.tmp 7) (.tmp 19) rfl rfl w2.heap.size x ino0 rfl rfl H4.out rfl (a1s w2) ?_;intro w3 hA hB _;have B3:=ι (a0b B2.out ((a0a (Below.refl _ w2) _).trans hB));clear hA hB))
  go_ret2
  exact⟨none,0,0,rfl,rfl,a6a _ 1,B3.out,fun a h=>by cases h⟩
theorem fread(w:World)(g:Nat)(d:Value)(ss:List (List Int))(s:ByteArray)(h:FK w g d ss)(hm:Mx w)(hsz:s.size≤100000) :
  Calls Tryz.prog 10 #[.pointer (some ⟨g,0,none⟩),.string s] w fun e w'=>∃p n c,e = .returned (.tuple #[.slice p n c,.int .i64 (readV ss s).2])∧n=(readV ss s).1.length∧Rd w' 1 (.slice p n c) n ((readV ss s).1.map (Value.int .u8))∧Below w.heap.size w w' :=
 (freadN w g d ss s h hm hsz).mono fun e w' ⟨p,n,c,h1,h2,h3,h4,_⟩=>⟨p,n,c,h1,h2,h3,h4⟩
end fs
namespace fs
set_option maxRecDepth 100000
open Go.ChangeShapes Go.WideShapes Go.ChangeAt Go.RowKit
open rows
open sec
open dsk (St Wr Wr.ok Wr.c a1a a0p)
open ly
open pa
open lk
open al
theorem b6e{G:Nat→Prop}{g:Nat}{d:Value}{st:St}{w:World}(hGl:∀b,G b→b<w.heap.size)(h:FsAt w G g d st){k:Nat}(hg:st.good k)(hk:k+20≤900)(x:Wr)(b:Bool)(hx:x.ok)(w1:World)(hb:Below w.heap.size w w1) :
  Calls Tryz.prog 120 #[.pointer (some ⟨g,0,none⟩),.slice (some ⟨w1.heap.size,0,none⟩) 1 1] (w1.alloc (.cells (stC x b).toArray 187)) (fun e w'=>PDone G g d w (runV st [(x,b)]) e w'∧dsk.Touch G (w1.alloc (.cells (stC x b).toArray 187)) w') :=
 (fperform G g d st [(x,b)] (some ⟨w1.heap.size,0,none⟩) 1 1 (w1.alloc (.cells (stC x b).toArray 187)) (h.later (a0a hb _)) k hg (by omega) (by omega) (by
  have:=a0p w1 187 37 (stC x b) (a1c hx.1)
  simpa [stsC,pstC] using this) (fun a m c hv hm hh=>by
  cases hv
  have h1:=hGl _ hh
  have:=hb.size
  have h2:w1.heap.size<w.heap.size:=h1
  omega) (fun y hy=>by rw[List.mem_singleton.1 hy];exact hx)).mono fun e w' hd=>⟨a1x h.row.lt h.apart (a0a hb _) hd,hd.2.2⟩
theorem c9m(w:World)(x y:Wr)(b c:Bool)(hx:Sec x.s)(hy:Sec y.s):Rd (w.alloc (.cells (stC x b++stC y c).toArray 187)) 37 (.slice (some ⟨w.heap.size,0,none⟩) 2 2) 2 (stsC [(x,b),(y,c)]):=by
 have e:stsC [(x,b),(y,c)]=stC x b++stC y c:=by simp[stsC,pstC]
 rw[e]
 refine Or.inr ⟨w.heap.size,0,2,rfl,by omega,Nat.le_refl _,by unfold maxLen;omega,by simp,by simp[a1c hx,a1c hy],fun i u hi => ?_⟩
 rw[Nat.zero_add,World.cell?_alloc_new]
 simpa using hi
theorem c2r{G:Nat→Prop}{g:Nat}{d:Value}{st:St}{w:World}(hGl:∀b,G b→b<w.heap.size)(h:FsAt w G g d st){k:Nat}(hg:st.good k)(hk:k+20≤900)(x y:Wr)(b c:Bool)(hx:x.ok)(hy:y.ok)(w1:World)(hb:Below w.heap.size w w1) :
  Calls Tryz.prog 120 #[.pointer (some ⟨g,0,none⟩),.slice (some ⟨w1.heap.size,0,none⟩) 2 2] (w1.alloc (.cells (stC x b++stC y c).toArray 187)) (fun e w'=>PDone G g d w (runV st [(x,b),(y,c)]) e w'∧dsk.Touch G (w1.alloc (.cells (stC x b++stC y c).toArray 187)) w') :=
 (fperform G g d st [(x,b),(y,c)] (some ⟨w1.heap.size,0,none⟩) 2 2 (w1.alloc (.cells (stC x b++stC y c).toArray 187)) (h.later (a0a hb _)) k hg (by omega) (by omega) (c9m w1 x y b c hx.1 hy.1) (fun a m c' hv hm hh=>by
  cases hv
  have h1:=hGl _ hh
  have:=hb.size
  have h2:w1.heap.size<w.heap.size:=h1
  omega) (fun z hz=>by
  rcases List.mem_cons.1 hz with rfl|hz
  ·exact hx
  ·rw[List.mem_singleton.1 hz];exact hy)).mono fun e w' hd=>⟨a1x h.row.lt h.apart (a0a hb _) hd,hd.2.2⟩
theorem c8x(cs ds:List Value)(u v:Value)(hu:u.cells=cs.toArray)(hv:v.cells=ds.toArray)(hs:cs.length=37)(hd:ds.length=37)(old:Array Value)(ho:old.size=74):Instr.fill (fun i=>some (i * 37,37)) old [(0,u),(1,v)]=some (cs++ds).toArray:=by
 have e:old=old.toList.toArray:=by simp
 have hol:old.toList.length=74:=by simpa using ho
 generalize old.toList=l at *
 subst e
 rw[a1a _ _ 0 0 37 u cs _ (by simp) hu hs (by omega),a1a _ _ 1 37 37 v ds _ (by simp) hv hd (by simp[hs];omega)]
 have e1:(l.take 0++cs++l.drop (0+37)).take 37=cs:=by
  rw[List.take_zero,List.nil_append,List.take_left' hs]
 have e2:(l.take 0++cs++l.drop (0+37)).drop (37+37)=[]:=by
  apply List.drop_of_length_le
  simp[hs];omega
 rw[e1,e2,List.append_nil]
 rfl
theorem a7f{ops:Array Oper}{o:Oper}{a:Act}{w:World}{K:Act→World→Prop}{Q:Exit→Act→World→Prop}{F:Prop}(hw:Region.wanted o (yielded ops a.tmps)=true)(x y:Operand)(ho:o.op = .buildSlice 193 2 #[(0,x),(1,y)])
  (p q:Wr) (b c:Bool) (hp:Sec p.s) (hq:Sec q.s) (hx:a.eval x=aggT p b) (hy:a.eval y=aggT q c) (h:K (a.put o.dst (.slice (some ⟨w.heap.size,0,none⟩) 2 2)) (w.alloc (.cells (stC p b++stC q c).toArray 187))):if Region.wanted o (yielded ops a.tmps)=true then Oper.wp Tryz.prog o a w K Q else F:=by
 rw[if_pos hw]
 obtain⟨ie,hi,hz0,hz1,hz2⟩:=info_parts elem_sts.info
 refine wp_buildSlice 193 187 2 #[(0,x),(1,y)] ho (stC p b++stC q c).toArray ie _ elem_sts.und hi hz0 (by rw[hz1];omega) (by rw[hz1];omega) ?_ h
 rw[hz1]
 simp only[List.map_toArray,List.map_cons,List.map_nil,hx,hy]
 exact c8x (stC p b) (stC q c) _ _ rfl rfl (a1c hp) (a1c hq) _ (by simp)
theorem c0b(st:St)(x:Wr):runV st [(x,false)]=doR st [x]:=a6f [x] st
theorem run_two(st:St)(x y:Wr):runV st [(x,false),(y,false)]=doR st [x,y]:=a6f [x,y] st
set_option maxRecDepth 100000 in
set_option maxHeartbeats 3200000 in
theorem fadd(G:Nat→Prop)(g:Nat)(d:Value)(st:St)(w:World)(hGl:∀b,G b→b<w.heap.size)(h:FsAt w G g d st)(k:Nat)(hg:st.good k)(hk:k+20≤900)(hm:Mx w)(s:ByteArray)(hsz:s.size≤100000)(kind:Int)(hkd:0≤kind∧kind<256) :
  Calls Tryz.prog 69 #[.pointer (some ⟨g,0,none⟩),.string s,.int .i64 kind] w (PDone G g d w (makeV st s kind)):=by
 have HR:=ι h
 have HK:=h.known hg (by omega)
 have hsec:=HK.dk.secs.1
 have HLo:=ι (flocate w g d (nowL st) s HK hm hsz)
 have hpf:=a8t hsec s
 have HFI:=ι fun w' (hb:Below w.heap.size w w')=>c5m w' d (nowL st) (HK.later hb).dk
 have HFE:=ι fun w' (hb:Below w.heap.size w w')=>b7h w' d (nowL st) (HK.later hb).dk
 have HNM:=ι (show (placeV (nowL st) s).1.name.size≤maxLen by have:=b2y (nowL st) s;unfold maxLen;omega)
 have HP2:=ι fun x y b c (hx:x.ok) (hy:y.ok) w1 (hb:Below w.heap.size w w1)=>c2r hGl h hg hk x y b c hx hy w1 hb
 have HGL:=ι h.row.lt
 have HAP:=ι h.apart
 have HGl:=ι hGl
 have HKx:=ι HK
 obtain⟨V,hV⟩:∃V,makeV st s kind=V:=⟨_,rfl⟩
 rw[hV]
 unfold makeV at hV
 have hfi:∀n,frI (nowL st)=some n→n<16:=fun n hn=>(a2o hn).1
 have hfe:∀n,frE (nowL st)=some n→n<24:=fun n hn=>(a2o hn).1
 generalize placeV (nowL st) s=P at *
 obtain⟨sp,er⟩:=P
 simp only at hV HLo hpf HNM
 obtain⟨sd,sn,sk,si⟩:=sp
 simp only at hV hpf HNM
 generalize frI (nowL st)=fi at *
 generalize frE (nowL st)=fe at *
 change Hid (Calls _ _ _ _ fun e w'=>e=Ending.returned (.tuple #[aggP ⟨sd,sn,si,sk,if si then (entAt (nowL st) sk).target else 0⟩,.int .i64 er])∧_) at HLo
 generalize (if si then (entAt (nowL st) sk).target else 0)=tg at *
 generalize nowL st=L at *
 clear h hg hk hm hsz hsec hGl HK
 by_cases he:er=0
 ·subst he
  rw[if_neg (by simp)] at hV
  cases si with
  | true =>
   rw[if_pos rfl] at hV
   subst hV
   clear HP2
   go_enter Tryz.func69,Tryz.ntmps69
   go_wp2_with (first|(go_at_call 117;refine HLo.out.mono ?_;rintro e w1 ⟨rfl,hb⟩;have B1:=ι hb;clear hb)|(refine a0x rfl (.tmp 7) (.tmp 16) rfl rfl w1.heap.size ⟨sd,sn,true,sk,tg⟩ plc0 rfl rfl (a3a w1) ?_;intro w2 hA hB;have B2:=ι (a0b B1.out ((a0a (Below.refl _ w1) _).trans hB));have c2:w2.cell? ⟨w1.heap.size,2,none⟩=some (.bool true):=hA.cell2;clear hA hB))
   go_ret
   exact a0h HR.out B2.out
  | false =>
   rw[if_neg (by decide)] at hV
   cases fi with
   | none =>
    have hV2:V=(2,st):=by rw[← hV]
    subst hV2
    rw[a5r] at HFI
    clear hV HP2
    go_enter Tryz.func69,Tryz.ntmps69
    go_wp2_with (first|(go_at_call 117;refine HLo.out.mono ?_;rintro e w1 ⟨rfl,hb⟩;have B1:=ι hb;clear hb)|(refine a0x rfl (.tmp 7) (.tmp 16) rfl rfl w1.heap.size ⟨sd,sn,false,sk,tg⟩ plc0 rfl rfl (a3a w1) ?_;intro w2 hA hB;have B2:=ι (a0b B1.out ((a0a (Below.refl _ w1) _).trans hB));have c2:w2.cell? ⟨w1.heap.size,2,none⟩=some (.bool false):=hA.cell2;have d2:=(HKx.out.later B2.out).row.disk;clear hA hB)|(go_at_call 118;refine(HFI.out _ B2.out).mono ?_;rintro e w3 ⟨rfl,hb⟩;have B3:=ι (a0b B2.out hb);clear hb))
    go_ret
    exact a0h HR.out B3.out
   | some ni =>
    rw[a5u] at HFI
    cases fe with
    | none =>
     have hV2:V=(2,st):=by rw[← hV]
     subst hV2
     rw[a5r] at HFE
     clear hV HP2
     go_enter Tryz.func69,Tryz.ntmps69
     go_wp2_with (first|(go_at_call 117;refine HLo.out.mono ?_;rintro e w1 ⟨rfl,hb⟩;have B1:=ι hb;clear hb)|(refine a0x rfl (.tmp 7) (.tmp 16) rfl rfl w1.heap.size ⟨sd,sn,false,sk,tg⟩ plc0 rfl rfl (a3a w1) ?_;intro w2 hA hB;have B2:=ι (a0b B1.out ((a0a (Below.refl _ w1) _).trans hB));have c2:w2.cell? ⟨w1.heap.size,2,none⟩=some (.bool false):=hA.cell2;have d2:=(HKx.out.later B2.out).row.disk;clear hA hB)|(go_at_call 118;refine(HFI.out _ B2.out).mono ?_;rintro e w3 ⟨rfl,hb⟩;have B3:=ι (a0b B2.out hb);have d3:=(HKx.out.later B3.out).row.disk;clear hb)|(go_at_call 119;refine(HFE.out _ B3.out).mono ?_;rintro e w4 ⟨rfl,hb⟩;have B4:=ι (a0b B3.out hb);clear hb))
     go_ret
     exact a0h HR.out B4.out
    | some ke =>
     have hn16:=hfi ni rfl
     have hk24:=hfe ke rfl
     rw[a5u] at HFE
     have okN:(⟨kind,0,[0,0,0,0]⟩:Ino).ok:=c4h hkd
     have okT:(⟨true,sd,sn,(ni:Int)⟩:Ent).ok:=⟨a0f (by show 0≤sd∧sd<256;omega),a0f (by show 0≤(ni:Int)∧(ni:Int)<256;omega),HNM.out⟩
     have HI:=ι fun w'=>finodeStep (ni:Int) (by omega) ⟨kind,0,[0,0,0,0]⟩ okN w'
     change Hid (∀w',Calls _ _ #[.int .i64 (ni:Int),.agg #[.int .i64 kind,.int .i64 0,.int .i64 0,.int .i64 0,.int .i64 0,.int .i64 0]] _ _) at HI
     have HE:=ι fun w'=>fentryStep (ke:Int) (by omega) ⟨true,sd,sn,(ni:Int)⟩ okT w'
     change Hid (∀w',Calls _ _ _ _ fun e w''=>e=Ending.returned (aggT (wEnt (ke:Int) ⟨true,sd,sn,(ni:Int)⟩ sd) false)∧_) at HE
     have HEN:=ι fun w'=>fentry ⟨sd,sn,false,sk,tg⟩ (ni:Int) w'
     have okI:=c0r (n:=(ni:Int)) (x:=⟨kind,0,[0,0,0,0]⟩) (by omega) rfl
     have okE:=b4z (k:=(ke:Int)) (f:=sd) (x:=⟨true,sd,sn,(ni:Int)⟩) (by omega) (by omega)
     simp only at hV
     change doR st [wIno (ni:Int) ⟨kind,0,[0,0,0,0]⟩,wEnt (ke:Int) ⟨true,sd,sn,(ni:Int)⟩ sd]=V at hV
     have HPF:=ι fun w1 hb=>HP2.out _ _ false false okI okE w1 hb
     rw[run_two,hV] at HPF
     generalize wIno (ni:Int) ⟨kind,0,[0,0,0,0]⟩=x1 at *
     generalize wEnt (ke:Int) ⟨true,sd,sn,(ni:Int)⟩ sd=x2 at *
     have OI:=ι okI
     have OE:=ι okE
     clear hfi hfe okI okE HP2 hV okN okT
     go_enter Tryz.func69,Tryz.ntmps69
     go_upto_region 12 with(first|(go_at_call 117;refine HLo.out.mono ?_;rintro e w1 ⟨rfl,hb⟩;have B1:=ι hb;clear hb)|(refine a0x rfl (.tmp 7) (.tmp 16) rfl rfl w1.heap.size ⟨sd,sn,false,sk,tg⟩ plc0 rfl rfl (a3a w1) ?_;intro w2 hA hB;have B2:=ι (a0b B1.out ((a0a (Below.refl _ w1) _).trans hB));have c2:w2.cell? ⟨w1.heap.size,2,none⟩=some (.bool false):=hA.cell2;have d2:=(HKx.out.later B2.out).row.disk;have P2:=ι hA;clear hA hB)|(go_at_call 118;refine(HFI.out _ B2.out).mono ?_;rintro e w3 ⟨rfl,hb⟩;have B3:=ι (a0b B2.out hb);have d3:=(HKx.out.later B3.out).row.disk;have P3:=ι (P2.out.later hb);clear hb)|(go_at_call 119;refine(HFE.out _ B3.out).mono ?_;rintro e w4 ⟨rfl,hb⟩;have B4:=ι (a0b B3.out hb);have P4:=ι (P3.out.later hb);clear hb))
     clear c2 d2 d3
     have hNG:¬G w1.heap.size:=fun hh=>by have:=HGl.out _ hh;have:=B1.out.size;omega
     have HPd:=ι fun v (hv:dsk.Touch G w4.drew v)=>(AtP.touch (w:=w4.drew) P4.out hv hNG)
     have hBd:Hid (∀v,Below w4.drew.heap.size w4.drew v→Below w.heap.size w v):=ι fun v hv=>a0b B4.out (((Below.refl w4.heap.size w4).drew).trans hv)
     have h0:=dsk.Touch.refl G w4.drew
     have b0:Below w4.drew.heap.size w4.drew w4.drew:=Below.refl _ _
     refine wp_region_held_drew (S:=dsk.Touch G w4.drew) (by kernel_rfl) h0 (fun hH0 => ?_)
     refine tk 0 rfl ?_
     refine tk 1 rfl ?_
     refine tk 2 rfl ?_
     refine tk 3 rfl ?_
     refine tk 5 rfl ?_
     refine tkv 6 rfl (ld_plc (by rfl) (.tmp 7) rfl w1.heap.size rfl ⟨sd,sn,false,sk,tg⟩ (fun w' hw=>HPd.out w' hw)) ?_
     refine tk 7 rfl ?_
     refine rd 4 rfl (fun K hK => ?_)
     go_simp
     refine(HI.out _).mono ?_
     rintro e v1 ⟨rfl,hv1⟩
     have b1:=b0.trans (hv1.mono b0.size)
     have h1:=dsk.Touch.of_below (S:=G) b1
     dsimp only
     refine hK.out _ _ ?_ (fun hHeld => ?_)
     ·exact h1
     clear hK K
     try simp only[Act.put,List.setIfInBounds_toArray,List.set_cons_zero,List.set_cons_succ]
     refine rd 8 rfl (fun K hK => ?_)
     go_simp
     refine(HEN.out _).mono ?_
     rintro e v2 ⟨rfl,hv2⟩
     have b2:=b1.trans (hv2.mono b1.size)
     have h2:=dsk.Touch.of_below (S:=G) b2
     dsimp only
     refine hK.out _ _ ?_ (fun hHeld => ?_)
     ·exact h2
     clear hK K
     try simp only[Act.put,List.setIfInBounds_toArray,List.set_cons_zero,List.set_cons_succ]
     refine rd 9 rfl (fun K hK => ?_)
     go_simp
     refine(HE.out _).mono ?_
     rintro e v3 ⟨rfl,hv3⟩
     have b3:=b2.trans (hv3.mono b2.size)
     have h3:=dsk.Touch.of_below (S:=G) b3
     dsimp only
     refine hK.out _ _ ?_ (fun hHeld => ?_)
     ·exact h3
     clear hK K
     try simp only[Act.put,List.setIfInBounds_toArray,List.set_cons_zero,List.set_cons_succ]
     refine rd 10 rfl (fun K hK => ?_)
     refine a7f (by rfl) (.tmp 47) (.tmp 52) rfl x1 x2 false false OI.out.1 OE.out.1 rfl rfl ?_
     have h4:dsk.Touch G w4.drew (v3.alloc (.cells (stC x1 false++stC x2 false).toArray 187)):=(h3).alloc _
     refine hK.out _ _ ?_ (fun hHeld => ?_)
     ·exact h4
     clear hK K
     try simp only[Act.put,List.setIfInBounds_toArray,List.set_cons_zero,List.set_cons_succ]
     refine rd 11 rfl (fun K hK => ?_)
     go_simp
     refine(HPF.out v3 (hBd.out _ b3)).mono ?_
     rintro e v5 ⟨hd5,ht5⟩
     have DD:=ι hd5
     have h5:=(h4).trans ht5
     obtain⟨rfl,_⟩:=hd5
     dsimp only
     refine hK.out _ _ ?_ (fun hHeld => ?_)
     ·exact h5
     clear hK K
     try simp only[Act.put,List.setIfInBounds_toArray,List.set_cons_zero,List.set_cons_succ]
     refine tk 12 rfl ?_
     refine wpAnyH_done (by kernel_rfl) ?_ _
     go_wp2_with fail
     go_ret
     exact DD.out
 ·rw[if_pos he] at hV
  subst hV
  have heb:(er != 0)=true:=by simpa using he
  go_enter Tryz.func69,Tryz.ntmps69
  go_wp2_with (first|(go_at_call 117;refine HLo.out.mono ?_;rintro e w1 ⟨rfl,hb⟩;have B1:=ι hb;clear hb)|(refine a0x rfl (.tmp 7) (.tmp 16) rfl rfl w1.heap.size ⟨sd,sn,si,sk,tg⟩ plc0 rfl rfl (a3a w1) ?_;intro w2 hA hB;have B2:=ι (a0b B1.out ((a0a (Below.refl _ w1) _).trans hB));clear hA hB))
  go_ret
  exact a0h HR.out B2.out
theorem fcreate(G:Nat→Prop)(g:Nat)(d:Value)(st:St)(w:World)(hGl:∀b,G b→b<w.heap.size)(h:FsAt w G g d st)(k:Nat)(hg:st.good k)(hk:k+20≤900)(hm:Mx w)(s:ByteArray)(hsz:s.size≤100000) :
  Calls Tryz.prog 25 #[.pointer (some ⟨g,0,none⟩),.string s] w (PDone G g d w (makeV st s 1)):=by
 have HA:=ι (fadd G g d st w hGl h k hg hk hm s hsz 1 (by omega))
 clear h hg hk hm hsz hGl
 go_enter Tryz.func25,Tryz.ntmps25
 go_wp2_with (go_at_call 69;refine HA.out.mono ?_;rintro e w1 hd;have HD:=ι hd;obtain⟨rfl,_⟩:=hd)
 go_ret
 exact HD.out
theorem fmkdir(G:Nat→Prop)(g:Nat)(d:Value)(st:St)(w:World)(hGl:∀b,G b→b<w.heap.size)(h:FsAt w G g d st)(k:Nat)(hg:st.good k)(hk:k+20≤900)(hm:Mx w)(s:ByteArray)(hsz:s.size≤100000) :
  Calls Tryz.prog 76 #[.pointer (some ⟨g,0,none⟩),.string s] w (PDone G g d w (makeV st s 2)):=by
 have HA:=ι (fadd G g d st w hGl h k hg hk hm s hsz 2 (by omega))
 clear h hg hk hm hsz hGl
 go_enter Tryz.func76,Tryz.ntmps76
 go_wp2_with (go_at_call 69;refine HA.out.mono ?_;rintro e w1 hd;have HD:=ι hd;obtain⟨rfl,_⟩:=hd)
 go_ret
 exact HD.out
end fs
namespace fs
set_option maxRecDepth 100000
open Go.ChangeShapes Go.WideShapes Go.ChangeAt Go.RowKit
open rows
open sec
open dsk (wf64 a0d a0g St Wr.ok Wr.c a0n)
open ly
open pa
open lk
open al
theorem d4u{w:World}{g:Nat}{x:Ino}(h:AtI w g x)(hx:x.b.length=4){nd:Nat}(hnd:nd≤4):AtI (w.setCells g (2+nd) (List.replicate (4-nd) (.int .i64 0))) g ⟨x.kind,x.size,cutB x.b nd⟩:=by
 obtain⟨kd,sz,bl⟩:=x
 obtain⟨b0,b1,b2,b3,rfl⟩:=b8c hx
 have e:nd=0∨nd=1∨nd=2∨nd=3∨nd=4:=by omega
 rcases e with rfl|rfl|rfl|rfl|rfl
 ·exact AtI.setB (j:=3) (AtI.setB (j:=2) (AtI.setB (j:=1) (AtI.setB (j:=0) h 0) 0) 0) 0
 ·exact AtI.setB (j:=3) (AtI.setB (j:=2) (AtI.setB (j:=1) h 0) 0) 0
 ·exact AtI.setB (j:=3) (AtI.setB (j:=2) h 0) 0
 ·exact AtI.setB (j:=3) h 0
 ·exact h
theorem b3o{B g:Nat}:∀(l:List Value) (o:Nat) {a w:World},Below B a w→B≤g→Below B a (w.setCells g o l)
 | [],_,_,_,h,_=>h
 | v::r,o,a,w,h,hg=>b3o r (o+1) (h.setCell (p:=⟨g,o,none⟩) hg v) hg
theorem c7c{ops:Array Oper}{rest:List Oper}{o:Oper}{a:Act}{w:World}{Q:Exit→Act→World→Prop}(hgd:o.guard=none)(s:Operand)(ho:o.op = .call { callee := .builtin .clear,args := #[s],argTypes := #[31] })
  (g nd:Nat) (x:Ino) (hx:x.b.length=4) (hnd:nd≤4) (ad:Addr) (n c:Nat) (hs:a.eval s = .slice (some ad) n c) (hn:n=4-nd) (had:0<n→ad=⟨g,2+nd,none⟩) (hA:AtI w g x)
  (h:∀w',AtI w' g ⟨x.kind,x.size,cutB x.b nd⟩→Below g w w'→wpList Tryz.prog ops Q rest (a.put o.dst (.tuple #[])) w'):wpList Tryz.prog ops Q (o::rest) a w:=by
 have hrun:∀ty,(Builtin.clear_ #[31] ty #[.slice (some ad) n c]).run Tryz.prog w = .ok (.tuple #[]) (w.setCells g (2+nd) (List.replicate (4-nd) (.int .i64 0))):=by
  intro ty
  by_cases h0:n=0
  ·have e:4-nd=0:=by omega
   subst h0
   rw[e]
   simp[Builtin.clear_,run_underlying Tryz.underlying31,World.setCells]
  ·rw[had (by omega),← hn]
   exact Go.Lib.run_clear_slice w _ _ ty (.int .i64 0) Tryz.underlying31 (fun w=>by kernel_rfl) rfl rfl g (2+nd) n c (by omega) (fun j hj=>by
    have:=hA.cellb (i:=nd+j) (by rw[hx];omega)
    rw[show 2+nd+j=2+(nd+j) by omega,this]
    rfl) (fun j hj=>a0d hA _)
 refine wpList_plain hgd fun K hK => ?_
 unfold Oper.wp
 simp[execOp,ho,resolve,invoke,builtin,hs,hrun,Result.andThen]
 exact hK _ _ (h _ (d4u hA hx hnd) (b3o _ _ (Below.refl g w) (Nat.le_refl g)))
set_option maxRecDepth 100000 in
set_option maxHeartbeats 3200000 in
theorem funlink(G:Nat→Prop)(g:Nat)(d:Value)(st:St)(w:World)(hGl:∀b,G b→b<w.heap.size)(h:FsAt w G g d st)(k:Nat)(hg:st.good k)(hk:k+20≤900)(hm:Mx w)(s:ByteArray)(hsz:s.size≤100000) :
  Calls Tryz.prog 80 #[.pointer (some ⟨g,0,none⟩),.string s] w (PDone G g d w (unlinkV st s)):=by
 have HR:=ι h
 have HK:=h.known hg (by omega)
 have hsec:=HK.dk.secs.1
 have HLo:=ι (flocate w g d (nowL st) s HK hm hsz)
 have hpf:=a8t hsec s
 have HP1:=ι fun x b (hx:x.ok) w1 (hb:Below w.heap.size w w1)=>b6e hGl h hg hk x b hx w1 hb
 have HKx:=ι HK
 obtain⟨V,hV⟩:∃V,unlinkV st s=V:=⟨_,rfl⟩
 rw[hV]
 unfold unlinkV at hV
 have htf:=a5j hsec (placeV (nowL st) s).1.k
 generalize placeV (nowL st) s=P at *
 obtain⟨sp,er⟩:=P
 simp only at hV HLo hpf htf
 obtain⟨sd,sn,sk,si⟩:=sp
 simp only at hV hpf htf
 change Hid (Calls _ _ _ _ fun e w'=>e=Ending.returned (.tuple #[aggP ⟨sd,sn,si,sk,if si then (entAt (nowL st) sk).target else 0⟩,.int .i64 er])∧_) at HLo
 generalize htg:(entAt (nowL st) sk).target=tg at *
 clear htg
 have HFo:=ι fun w' (hb:Below w.heap.size w w')=>fisfolder w' g d (nowL st) tg (HK.later hb) (a0f (by omega))
 have HLi:=ι fun w' (hb:Below w.heap.size w w')=>d3m w' d (nowL st) tg (HK.later hb).dk
 have HFB:=ι fun l (h:IsList (nowL st) tg l)=>c6c h
 generalize fullB (nowL st) tg=fb at *
 obtain⟨kd,hkd⟩:∃kd,(inoAt (nowL st) tg).kind=kd:=⟨_,rfl⟩
 rw[hkd] at hV HFo
 have HC:=ι fun w'=>fclearStep sk (by omega) sd w'
 have okW:=b4z (k:=sk) (f:=sd) (x:=ent0) (by omega) (by omega)
 have HPF:=ι fun w1 hb=>HP1.out _ false okW w1 hb
 rw[c0b] at HPF
 generalize wEnt sk ent0 sd=x1 at *
 have OX:=ι okW
 generalize nowL st=L at *
 clear h hg hk hm hsz hsec hGl HK HP1 okW hkd
 by_cases he:er=0
 ·subst he
  rw[if_neg (by simp)] at hV
  cases si with
  | false =>
   rw[if_pos rfl] at hV
   subst hV
   clear HPF
   go_enter Tryz.func80,Tryz.ntmps80
   go_wp2_with (first|(go_at_call 117;refine HLo.out.mono ?_;rintro e w1 ⟨rfl,hb⟩;have B1:=ι hb;clear hb)|(refine a0x rfl (.tmp 5) (.tmp 11) rfl rfl w1.heap.size ⟨sd,sn,false,sk,0⟩ plc0 rfl rfl (a3a w1) ?_;intro w2 hA hB;have B2:=ι (a0b B1.out ((a0a (Below.refl _ w1) _).trans hB));have c2:w2.cell? ⟨w1.heap.size,2,none⟩=some (.bool false):=hA.cell2;clear hA hB))
   go_ret
   exact a0h HR.out B2.out
  | true =>
   rw[if_neg (by decide)] at hV
   change Hid (Calls _ _ _ _ fun e w'=>e=Ending.returned (.tuple #[aggP ⟨sd,sn,true,sk,tg⟩,.int .i64 0])∧_) at HLo
   have HU:Hid (∀(A:Prop),A→A):=ι fun _ h=>h
   by_cases hk2:kd=2
   ·subst hk2
    have HF2:Hid (∀w',Below w.heap.size w w'→Calls Tryz.prog 129 #[.pointer (some ⟨g,0,none⟩),.int .i64 tg] w' fun e w''=>e = .returned (.bool true)∧Below w'.heap.size w' w''):=ι fun w' hb=>HFo.out w' hb
    clear HFo
    go_enter Tryz.func80,Tryz.ntmps80
    go_upto_region 6 with(first|(go_at_call 117;refine HLo.out.mono ?_;rintro e w1 ⟨rfl,hb⟩;have B1:=ι hb;clear hb)|(refine a0x rfl (.tmp 5) (.tmp 11) rfl rfl w1.heap.size ⟨sd,sn,true,sk,tg⟩ plc0 rfl rfl (a3a w1) ?_;intro w2 hA hB;have B2:=ι (a0b B1.out ((a0a (Below.refl _ w1) _).trans hB));have c2:w2.cell? ⟨w1.heap.size,2,none⟩=some (.bool true):=hA.cell2;have P2:=ι hA;clear hA hB))
    clear c2
    have D2:=ι (HKx.out.later B2.out).row
    have HPd:=ι fun v (hv:Below w2.drew.heap.size w2.drew v)=>(AtP.later (w:=w2.drew) P2.out hv)
    have HDd:=ι fun v (hv:Below w2.drew.heap.size w2.drew v)=>(FR.later (w:=w2.drew) D2.out hv).disk
    have hBd:Hid (∀v,Below w2.drew.heap.size w2.drew v→Below w.heap.size w v):=ι fun v hv=>a0b B2.out (((Below.refl w2.heap.size w2).drew).trans hv)
    have h0:Below w2.drew.heap.size w2.drew w2.drew:=Below.refl _ _
    refine wp_region_held_drew (S:=Below w2.drew.heap.size w2.drew) (by kernel_rfl) h0 (fun hH0 => ?_)
    refine tk 0 rfl ?_
    refine tk 1 rfl ?_
    refine tkv 2 rfl (a0n (by rfl) 3 _ Tryz.underlying3 rfl _ rfl w1.heap.size 4 rfl (.int .i64 tg) (fun w' hw=>(HPd.out w' hw).cell4)) ?_
    refine rd 3 rfl (fun K hK => ?_)
    go_simp
    refine(HF2.out _ (hBd.out _ h0)).mono ?_
    rintro e v1 ⟨rfl,hv1⟩
    have h1:=h0.trans (hv1.mono h0.size)
    dsimp only
    refine hK.out _ _ ?_ (fun hHeld => ?_)
    ·exact h1
    clear hK K
    try simp only[Act.put,List.setIfInBounds_toArray,List.set_cons_zero,List.set_cons_succ]
    refine tk 4 rfl ?_
    refine tk 5 rfl ?_
    refine tk 6 rfl ?_
    refine tk 7 rfl ?_
    refine tkv 8 rfl (a0n (by rfl) 45 _ Tryz.underlying45 rfl _ rfl g 1 rfl _ (fun w' hw=>HDd.out w' hw)) ?_
    refine tk 9 rfl ?_
    refine tkv 10 rfl (a0n (by rfl) 3 _ Tryz.underlying3 rfl _ rfl w1.heap.size 4 rfl (.int .i64 tg) (fun w' hw=>(HPd.out w' hw).cell4)) ?_
    refine rd 11 rfl (fun K hK => ?_)
    go_simp
    refine(HLi.out _ (hBd.out _ h1)).mono ?_
    rintro e v2 ⟨lx,q,m,kq,hL,rfl,hm,hr,hv2⟩
    have h2:=h1.trans (hv2.mono h1.size)
    subst hm
    dsimp only
    refine hK.out _ _ ?_ (fun hHeld => ?_)
    ·exact h2
    clear hK K
    try simp only[Act.put,List.setIfInBounds_toArray,List.set_cons_zero,List.set_cons_succ]
    refine tk 12 rfl ?_
    refine tk 13 rfl ?_
    refine tk 14 rfl ?_
    refine wpAnyH_done (by kernel_rfl) ?_ _
    have hdec0:=HFB.out _ hL
    have hdec:decide (0<lx.length)=fb:=by rw[← hdec0];exact decide_eq_decide.2 (by omega)
    clear hdec0 HFB
    have P5:=HPd.out _ h2
    have c0:_=some (Value.int .i64 sd):=P5.cell0
    have c3:_=some (Value.int .i64 sk):=P5.cell3
    have B5:=ι (hBd.out _ h2)
    clear P5
    cases fb with
    | true =>
     rw[if_pos (by simp)] at hV
     have hpl:0<lx.length:=by simpa using hdec
     subst hV
     clear HPF
     go_wp2_with fail
     go_ret
     exact a0h HR.out B5.out
    | false =>
     rw[if_neg (by simp)] at hV
     rw[hV] at HPF
     have hpl:¬0<lx.length:=by simpa using hdec
     clear hV
     go_wp2_with (first|(go_at_call 133;refine(HC.out _).mono ?_;rintro e w6 ⟨rfl,hb⟩;have B6:=ι (a0b B5.out hb);clear hb)|(refine a0g elem_sts (by decide) rfl (.tmp 39) rfl (stC x1 false) rfl (a1c OX.out.1) ?_)|(go_at_call 120;refine(HPF.out w6 B6.out).mono ?_;rintro e w8 ⟨hd8,_⟩;have D8:=ι hd8;obtain⟨rfl,_⟩:=hd8))
     go_ret
     exact D8.out
   ·rw[if_neg (fun hh=>hk2 hh.1)] at hV
    have HF2:Hid (∀w',Below w.heap.size w w'→Calls Tryz.prog 129 #[.pointer (some ⟨g,0,none⟩),.int .i64 tg] w' fun e w''=>e = .returned (.bool false)∧Below w'.heap.size w' w''):=ι fun w' hb=>by
     have h:=HFo.out w' hb
     rw[decide_eq_false hk2] at h
     exact h
    rw[hV] at HPF
    clear HFo hV
    go_enter Tryz.func80,Tryz.ntmps80
    go_upto_region 6 with(first|(go_at_call 117;refine HLo.out.mono ?_;rintro e w1 ⟨rfl,hb⟩;have B1:=ι hb;clear hb)|(refine a0x rfl (.tmp 5) (.tmp 11) rfl rfl w1.heap.size ⟨sd,sn,true,sk,tg⟩ plc0 rfl rfl (a3a w1) ?_;intro w2 hA hB;have B2:=ι (a0b B1.out ((a0a (Below.refl _ w1) _).trans hB));have c2:w2.cell? ⟨w1.heap.size,2,none⟩=some (.bool true):=hA.cell2;have P2:=ι hA;clear hA hB))
    clear c2
    have HPd:=ι fun v (hv:Below w2.drew.heap.size w2.drew v)=>(AtP.later (w:=w2.drew) P2.out hv)
    have hBd:Hid (∀v,Below w2.drew.heap.size w2.drew v→Below w.heap.size w v):=ι fun v hv=>a0b B2.out (((Below.refl w2.heap.size w2).drew).trans hv)
    have h0:Below w2.drew.heap.size w2.drew w2.drew:=Below.refl _ _
    refine wp_region_held_drew (S:=Below w2.drew.heap.size w2.drew) (by kernel_rfl) h0 (fun hH0 => ?_)
    refine tk 0 rfl ?_
    refine tk 1 rfl ?_
    refine tkv 2 rfl (a0n (by rfl) 3 _ Tryz.underlying3 rfl _ rfl w1.heap.size 4 rfl (.int .i64 tg) (fun w' hw=>(HPd.out w' hw).cell4)) ?_
    refine rd 3 rfl (fun K hK => ?_)
    go_simp
    refine(HF2.out _ (hBd.out _ h0)).mono ?_
    rintro e v1 ⟨rfl,hv1⟩
    have h1:=h0.trans (hv1.mono h0.size)
    dsimp only
    refine hK.out _ _ ?_ (fun hHeld => ?_)
    ·exact h1
    clear hK K
    try simp only[Act.put,List.setIfInBounds_toArray,List.set_cons_zero,List.set_cons_succ]
    refine tk 4 rfl ?_
    refine wpAnyH_take (i:=5) (oi:={ dst:=some 24,op:=Op.move (Operand.tmp 0),type:=26,pos := "sfs.go:187", after := #[{ on:=4,ground:=Ground.guard }],guard:=some (4,true) }) (v:=undef) rfl (by kernel_rfl) (by kernel_rfl) (by kernel_rfl) (fun _ _ _ h=>h) (Or.inr ⟨by rfl,rfl⟩) (by assumption) ?_
    try simp only[Act.put,List.setIfInBounds_toArray,List.set_cons_zero,List.set_cons_succ]
    refine wpAnyH_take (i:=6) (oi:={ dst:=some 25,op:=Op.nilCheck (Operand.tmp 24),type:=0,pos := "sfs.go:187", after := #[{ on:=5,ground:=Ground.data },{ on:=4,ground:=Ground.guard }],guard:=some (4,true) }) (v:=undef) rfl (by kernel_rfl) (by kernel_rfl) (by kernel_rfl) (fun _ _ _ h=>h) (Or.inr ⟨by rfl,rfl⟩) (by assumption) ?_
    try simp only[Act.put,List.setIfInBounds_toArray,List.set_cons_zero,List.set_cons_succ]
    refine wpAnyH_take (i:=7) (oi:={ dst:=some 26,op:=Op.fieldAddr 92 (Operand.tmp 25) 1,type:=0,pos := "sfs.go:187", after := #[{ on:=6,ground:=Ground.data },{ on:=4,ground:=Ground.guard }],guard:=some (4,true) }) (v:=undef) rfl (by kernel_rfl) (by kernel_rfl) (by kernel_rfl) (fun _ _ _ h=>h) (Or.inr ⟨by rfl,rfl⟩) (by assumption) ?_
    try simp only[Act.put,List.setIfInBounds_toArray,List.set_cons_zero,List.set_cons_succ]
    refine wpAnyH_take (i:=8) (oi:={ dst:=some 27,op:=Op.load 45 (Operand.tmp 26),type:=45,pos := "sfs.go:187", after := #[{ on:=7,ground:=Ground.data },{ on:=4,ground:=Ground.guard }],guard:=some (4,true) }) (v:=undef) rfl (by kernel_rfl) (by kernel_rfl) (by kernel_rfl) (fun _ _ _ h=>h) (Or.inr ⟨by rfl,rfl⟩) (by assumption) ?_
    try simp only[Act.put,List.setIfInBounds_toArray,List.set_cons_zero,List.set_cons_succ]
    refine wpAnyH_take (i:=9) (oi:={ dst:=some 28,op:=Op.fieldAddr 180 (Operand.tmp 5) 4,type:=0,pos := "sfs.go:187", after := #[{ on:=4,ground:=Ground.guard }],guard:=some (4,true) }) (v:=undef) rfl (by kernel_rfl) (by kernel_rfl) (by kernel_rfl) (fun _ _ _ h=>h) (Or.inr ⟨by rfl,rfl⟩) (by assumption) ?_
    try simp only[Act.put,List.setIfInBounds_toArray,List.set_cons_zero,List.set_cons_succ]
    refine wpAnyH_take (i:=10) (oi:={ dst:=some 29,op:=Op.load 3 (Operand.tmp 28),type:=3,pos := "sfs.go:187", after := #[{ on:=9,ground:=Ground.data },{ on:=4,ground:=Ground.guard }],guard:=some (4,true) }) (v:=undef) rfl (by kernel_rfl) (by kernel_rfl) (by kernel_rfl) (fun _ _ _ h=>h) (Or.inr ⟨by rfl,rfl⟩) (by assumption) ?_
    try simp only[Act.put,List.setIfInBounds_toArray,List.set_cons_zero,List.set_cons_succ]
    refine wpAnyH_take (i:=11) (oi:={ dst:=some 30,op:=Op.call { callee:=Callee.value (Operand.func 132),args := #[Operand.tmp 27,Operand.tmp 29],argTypes := #[45,3] },type:=40,pos := "sfs.go:187", after := #[{ on:=8,ground:=Ground.data },{ on:=10,ground:=Ground.data },{ on:=4,ground:=Ground.chain },{ on:=4,ground:=Ground.guard }],guard:=some (4,true) }) (v:=undef) rfl (by kernel_rfl) (by kernel_rfl) (by kernel_rfl) (fun _ _ _ h=>h) (Or.inr ⟨by rfl,rfl⟩) (by assumption) ?_
    try simp only[Act.put,List.setIfInBounds_toArray,List.set_cons_zero,List.set_cons_succ]
    refine wpAnyH_take (i:=12) (oi:={ dst:=some 31,op:=Op.call { callee:=Callee.builtin Builtin.len,args := #[Operand.tmp 30],argTypes := #[40] },type:=3,pos := "sfs.go:187", after := #[{ on:=11,ground:=Ground.data },{ on:=4,ground:=Ground.guard }],guard:=some (4,true) }) (v:=undef) rfl (by kernel_rfl) (by kernel_rfl) (by kernel_rfl) (fun _ _ _ h=>h) (Or.inr ⟨by rfl,rfl⟩) (by assumption) ?_
    try simp only[Act.put,List.setIfInBounds_toArray,List.set_cons_zero,List.set_cons_succ]
    refine wpAnyH_take (i:=13) (oi:={ dst:=some 32,op:=Op.binOp BinOp.gtr 3 (Operand.tmp 31) (Operand.const (Value.int IntKind.i64 0)) 3,type:=4,pos := "sfs.go:187", after := #[{ on:=12,ground:=Ground.data },{ on:=4,ground:=Ground.guard }],guard:=some (4,true) }) (v:=undef) rfl (by kernel_rfl) (by kernel_rfl) (by kernel_rfl) (fun _ _ _ h=>h) (Or.inr ⟨by rfl,rfl⟩) (by assumption) ?_
    try simp only[Act.put,List.setIfInBounds_toArray,List.set_cons_zero,List.set_cons_succ]
    refine tk 14 rfl ?_
    refine wpAnyH_done (by kernel_rfl) ?_ _
    have P5:=HPd.out _ h1
    have c0:_=some (Value.int .i64 sd):=P5.cell0
    have c3:_=some (Value.int .i64 sk):=P5.cell3
    have B5:=ι (hBd.out _ h1)
    clear P5
    go_wp2_with (first|(go_at_call 133;refine(HC.out _).mono ?_;rintro e w6 ⟨rfl,hb⟩;have B6:=ι (a0b B5.out hb);clear hb)|(refine a0g elem_sts (by decide) rfl (.tmp 39) rfl (stC x1 false) rfl (a1c OX.out.1) ?_)|(go_at_call 120;refine(HPF.out w6 B6.out).mono ?_;rintro e w8 ⟨hd8,_⟩;have D8:=ι hd8;obtain⟨rfl,_⟩:=hd8))
    go_ret
    exact D8.out
 ·rw[if_pos he] at hV
  subst hV
  have heb:(er != 0)=true:=by simpa using he
  generalize (if si=true then tg else 0)=t5 at *
  go_enter Tryz.func80,Tryz.ntmps80
  go_wp2_with (first|(go_at_call 117;refine HLo.out.mono ?_;rintro e w1 ⟨rfl,hb⟩;have B1:=ι hb;clear hb)|(refine a0x rfl (.tmp 5) (.tmp 11) rfl rfl w1.heap.size ⟨sd,sn,si,sk,t5⟩ plc0 rfl rfl (a3a w1) ?_;intro w2 hA hB;have B2:=ι (a0b B1.out ((a0a (Below.refl _ w1) _).trans hB));clear hA hB))
  go_ret
  exact a0h HR.out B2.out
set_option maxRecDepth 100000 in
set_option maxHeartbeats 3200000 in
theorem ftrunc(G:Nat→Prop)(g:Nat)(d:Value)(st:St)(w:World)(hGl:∀b,G b→b<w.heap.size)(h:FsAt w G g d st)(k:Nat)(hg:st.good k)(hk:k+20≤900)(hm:Mx w)(s:ByteArray)(hsz:s.size≤100000)(z:Int)(hz:wf64 z) :
  Calls Tryz.prog 78 #[.pointer (some ⟨g,0,none⟩),.string s,.int .i64 z] w (PDone G g d w (truncV st s z)):=by
 have HR:=ι h
 have HK:=h.known hg (by omega)
 have hsec:=HK.dk.secs.1
 have HF:=ι (ffile w g d (nowL st) s HK hm hsz)
 have H4:=ι (a4k hsec s)
 have hfi:=b2i hsec s
 have hff:=fun hh=>b5r hsec (fileV (nowL st) s).1 hh
 have hok:=c1h hsec (fileV (nowL st) s).1
 have HP1:=ι fun x b (hx:x.ok) w1 (hb:Below w.heap.size w w1)=>b6e hGl h hg hk x b hx w1 hb
 obtain⟨V,hV⟩:∃V,truncV st s z=V:=⟨_,rfl⟩
 rw[hV]
 unfold truncV at hV
 generalize hFE:fileV (nowL st) s=F at *
 obtain⟨n,x,er⟩:=F
 unfold fileT at HF
 simp only at hV HF H4 hfi hff hok
 generalize nowL st=L at *
 clear h hg hk hsz hsec hFE HK hGl hm
 by_cases he:er=0
 ·subst he
  rw[if_neg (by simp)] at hV
  obtain⟨hx1,hx2,hx3,hx4⟩:=hfi rfl
  rw[← hx1] at hx2 hff hok
  obtain⟨hs0,hs1,_⟩:=hff hx2
  obtain⟨i1,i2⟩:=rows.wf_i64 hz
  clear hfi hff hx1
  by_cases hz0:z<0
  ·rw[if_pos (Or.inl hz0)] at hV
   subst hV
   clear hok
   go_enter Tryz.func78,Tryz.ntmps78
   go_wp2_with (first|(go_at_call 36;refine HF.out.mono ?_;rintro e w1 ⟨rfl,hb⟩;have B1:=ι hb;clear hb)|(refine a0m rfl (.tmp 8) (.tmp 15) rfl rfl w1.heap.size x ino0 rfl rfl H4.out rfl (a1s w1) ?_;intro w2 hA hB _;have B2:=ι (a0b B1.out ((a0a (Below.refl _ w1) _).trans hB));have c1:=hA.cell1;clear hA hB))
   go_ret
   exact a0h HR.out B2.out
  by_cases hz1:x.size<z
  ·rw[if_pos (Or.inr hz1)] at hV
   subst hV
   clear hok
   have hzz:0≤z:=by omega
   go_enter Tryz.func78,Tryz.ntmps78
   go_wp2_with (first|(go_at_call 36;refine HF.out.mono ?_;rintro e w1 ⟨rfl,hb⟩;have B1:=ι hb;clear hb)|(refine a0m rfl (.tmp 8) (.tmp 15) rfl rfl w1.heap.size x ino0 rfl rfl H4.out rfl (a1s w1) ?_;intro w2 hA hB _;have B2:=ι (a0b B1.out ((a0a (Below.refl _ w1) _).trans hB));have c1:=hA.cell1;clear hA hB))
   go_ret
   exact a0h HR.out B2.out
  rw[if_neg (by omega)] at hV
  by_cases hze:z=x.size
  ·rw[if_pos hze] at hV
   subst hV
   have hzb:(z == x.size)=true:=by rw[hze];simp
   have hzz:0≤z:=by omega
   have hzy:z≤x.size:=by omega
   clear hok hze
   go_enter Tryz.func78,Tryz.ntmps78
   go_wp2_with (first|(go_at_call 36;refine HF.out.mono ?_;rintro e w1 ⟨rfl,hb⟩;have B1:=ι hb;clear hb)|(refine a0m rfl (.tmp 8) (.tmp 15) rfl rfl w1.heap.size x ino0 rfl rfl H4.out rfl (a1s w1) ?_;intro w2 hA hB _;have B2:=ι (a0b B1.out ((a0a (Below.refl _ w1) _).trans hB));have c1:=hA.cell1;clear hA hB))
   go_ret
   exact a0h HR.out B2.out
  ·rw[if_neg hze] at hV
   have hzb:(z == x.size)=false:=beq_eq_false_iff_ne.2 hze
   have hzz:0≤z:=by omega
   have hzy:z≤x.size:=by omega
   obtain⟨m,rfl⟩:∃m:Nat,z=(m:Int):=⟨z.toNat,by omega⟩
   have hm128:m≤128:=by omega
   rw[Int.toNat_natCast] at hV
   have hnd:need m≤4:=by unfold need;omega
   have HNE:=ι fun w'=>frequired m (by omega) w'
   obtain⟨nd,hndE⟩:∃nd,need m=nd:=⟨_,rfl⟩
   rw[hndE] at hV hnd HNE
   have okN:=cut_ok hok (z:=(m:Int)) (wf64_of m (by omega)) nd hnd
   have okW:=c0r (n:=n) (x:=⟨x.kind,(m:Int),cutB x.b nd⟩) (by omega) okN.four
   have HOI:=ι fun w'=>finodeStep n (by omega) ⟨x.kind,(m:Int),cutB x.b nd⟩ okN w'
   have HPF:=ι fun w1 hb=>HP1.out _ false okW w1 hb
   rw[c0b,hV] at HPF
   have OW:=ι okW
   have ON:=ι okN
   generalize wIno n ⟨x.kind,(m:Int),cutB x.b nd⟩=wr' at *
   have hndi:(nd:Int)≤4:=by omega
   clear hok hze HP1 okN okW hndE hV
   go_enter Tryz.func78,Tryz.ntmps78
   go_upto_region 9 with(first|(go_at_call 36;refine HF.out.mono ?_;rintro e w1 ⟨rfl,hb⟩;have B1:=ι hb;clear hb)|(refine a0m rfl (.tmp 8) (.tmp 15) rfl rfl w1.heap.size x ino0 rfl rfl H4.out rfl (a1s w1) ?_;intro w2 hA hB _;have B2:=ι (a0b B1.out ((a0a (Below.refl _ w1) _).trans hB));have A2:=ι hA;have c1:=hA.cell1;have f1:=a0d hA 1;clear hA hB))
   have A3:=ι (AtI.setS A2.out (m:Int))
   have B3:Hid (Below w.heap.size w (w2.setCell ⟨w1.heap.size,1,none⟩ (.int .i64 (m:Int)))):=ι (B2.out.setCell (p:=⟨w1.heap.size,1,none⟩) B1.out.size _)
   generalize w2.setCell ⟨w1.heap.size,1,none⟩ (.int .i64 (m:Int))=w3 at *
   have A3:Hid (AtI w3 w1.heap.size ⟨x.kind,(m:Int),x.b⟩):=ι A3.out
   clear c1 f1 A2 B2
   have HY:Hid (∀w',AtI w' w1.heap.size ⟨x.kind,(m:Int),cutB x.b nd⟩→AtI w' w1.heap.size ⟨x.kind,(m:Int),cutB x.b nd⟩):=ι fun _ h=>h
   obtain⟨y,hy⟩:∃y:Ino,(⟨x.kind,(m:Int),cutB x.b nd⟩:Ino)=y:=⟨_,rfl⟩
   have HYE:=ι hy
   rw[hy] at HOI ON HY
   clear hy
   go_wp2_with (first|(go_at_call 37;refine(HNE.out _).mono ?_;rintro e w5 ⟨rfl,rfl⟩)|(refine c7c rfl (.tmp 37) rfl w1.heap.size nd ⟨x.kind,(m:Int),x.b⟩ H4.out hnd _ _ _ rfl (by simp) (fun hp=>(by have hne:¬(4=nd):=(by omega);simp[hne])) A3.out ?_;intro w4 hA hB;have A4:Hid (AtI w4 w1.heap.size y):=ι (by rw[← HYE.out];exact hA);have B4:=ι (B3.out.trans (hB.mono B1.out.size));clear hA hB)|(refine a0z rfl (.tmp 8) rfl w1.heap.size rfl y ON.out.four A4.out ?_)|(go_at_call 121;refine(HOI.out _).mono ?_;rintro e w7 ⟨rfl,hb⟩;have B7:=ι (a0b B4.out hb);clear hb)|(refine a0g elem_sts (by decide) rfl (.tmp 41) rfl (stC wr' false) rfl (a1c OW.out.1) ?_)|(go_at_call 120;refine(HPF.out w7 B7.out).mono ?_;rintro e w8 ⟨hd8,_⟩;have D8:=ι hd8;obtain⟨rfl,_⟩:=hd8))
   all_goals (go_ret;exact D8.out)
 ·rw[if_pos he] at hV
  subst hV
  have heb:(er != 0)=true:=by simpa using he
  clear hfi hff hok
  go_enter Tryz.func78,Tryz.ntmps78
  go_wp2_with (first|(go_at_call 36;refine HF.out.mono ?_;rintro e w1 ⟨rfl,hb⟩;have B1:=ι hb;clear hb)|(refine a0m rfl (.tmp 8) (.tmp 15) rfl rfl w1.heap.size x ino0 rfl rfl H4.out rfl (a1s w1) ?_;intro w2 hA hB _;have B2:=ι (a0b B1.out ((a0a (Below.refl _ w1) _).trans hB));clear hA hB))
  go_ret
  exact a0h HR.out B2.out
end fs
namespace fs
set_option maxRecDepth 100000
open Go.ChangeShapes Go.WideShapes Go.ChangeAt Go.RowKit
open rows
open sec
open dsk (wf64 a0d grow size_alloc Wr.ok Wr.c a0n)
open ly
open pa
open lk
open al
theorem c3t(x:Ino)(has:Nat)(fl:List Int):(x.c.take (2+has)++i64s fl++x.c.drop (2+has+(i64s fl).length))=(⟨x.kind,x.size,x.b.take has++fl++x.b.drop (has+fl.length)⟩:Ino).c:=by
 have e1:2+has=has+1+1:=by omega
 have e2:2+has+(i64s fl).length=has+fl.length+1+1:=by simp[i64s];omega
 rw[e2,e1]
 simp[Ino.c,i64s,List.map_append,List.map_take,List.map_drop]
theorem d2s{ops:Array Oper}{rest:List Oper}{o:Oper}{a:Act}{w:World}{Q:Exit→Act→World→Prop}(hgd:o.guard=none)(p s:Operand)(ho:o.op = .call { callee := .builtin .copy,args := #[p,s],argTypes := #[31,31] })
  (g has:Nat) (x:Ino) (hx:x.b.length=4) (fl:List Int) (hl:has+fl.length≤4) (ad:Addr) (n c:Nat) (hd:a.eval p = .slice (some ad) n c) (hn:n=4-has) (had:0<n→ad=⟨g,2+has,none⟩)
  (q:Option Addr) (mm kk:Nat) (hs:a.eval s = .slice q mm kk) (hr:Rd w 1 (.slice q mm kk) mm (i64s fl)) (hA:AtI w g x)
  (h:∀w' v,AtI w' g ⟨x.kind,x.size,x.b.take has++fl++x.b.drop (has+fl.length)⟩→Below g w w'→dsk.Touch (fun k=>k=g) w w'→wpList Tryz.prog ops Q rest (a.put o.dst v) w'):wpList Tryz.prog ops Q (o::rest) a w:=by
 have hmm:fl.length=mm:=by have:=hr.cells;simpa [i64s] using this
 by_cases h0:mm=0
 ·have hf:fl=[]:=List.eq_nil_of_length_eq_zero (by omega)
  have hrun:∀ty,(Builtin.copy_ #[31,31] ty #[.slice (some ad) n c,.slice q mm kk]).run Tryz.prog w = .ok (goInt 0) w:=fun ty =>
   run_copy_none (P:=Tryz.prog) w _ _ ty 3 (some ad) q n c mm kk Tryz.underlying31 (by kernel_rfl) (by rw[h0];exact Nat.zero_min n)
  refine wpList_plain hgd fun K hK => ?_
  unfold Oper.wp
  simp[execOp,ho,resolve,invoke,builtin,hd,hs,hrun,Result.andThen]
  refine hK _ _ (h _ _ ?_ (Below.refl _ _) (dsk.Touch.refl _ _))
  rw[hf]
  have e:x.b.take has++[]++x.b.drop (has+([]:List Int).length)=x.b:=by simp
  rw[e]
  exact hA
 ·rcases hr with⟨p',cap',h1,h2,_⟩|⟨b,off,cap',h1,h2,h3,h4,h5,h6,h7⟩
  ·exact absurd h2 h0
  ·cases h1
   have hfl:(i64s fl).length=fl.length:=by simp[i64s]
   have hrun:∀ty,(Builtin.copy_ #[31,31] ty #[.slice (some ad) n c,.slice (some ⟨b,off,none⟩) mm kk]).run Tryz.prog w = .ok (goInt (i64s fl).length) (w.setRow g (x.c.take (2+has)++i64s fl++x.c.drop (2+has+(i64s fl).length)).toArray):=fun ty=>by
    rw[had (by omega)]
    exact run_copy_row (P:=Tryz.prog) w _ _ ty 3 g (2+has) n c ⟨b,off,none⟩ mm kk x.c.toArray 75 (i64s fl) Tryz.underlying31 (by kernel_rfl) hA (by rw[hfl,hmm];exact(Nat.min_eq_left (by omega)).symm) (fun j u hj=>by
     have:=h7 j u hj
     rw[Addr.add_mid]
     exact this) (by rw[hfl];simp[a3g hx];omega) (a1y .i64 fl)
   refine wpList_plain hgd fun K hK => ?_
   unfold Oper.wp
   simp[execOp,ho,resolve,invoke,builtin,hd,hs,hrun,Result.andThen]
   refine hK _ _ (h _ _ ?_ ((Below.refl g w).trans ⟨rfl,rfl,rfl,by simp[World.setRow],fun k hk=>setRow_other w g k _ (by omega)⟩) (dsk.a3f w g _))
   rw[← List.append_assoc,c3t]
   exact setRow_heap w g _ _ _ _ hA
def growV(L:List (List Int))(x:Ino)(m:Nat):Ino×Bool :=
 if (m:Int)≤x.size then (x,true)
 else if blkB L ((need m:Nat)-(need x.size.toNat:Nat):Int) then (⟨x.kind,m,x.b.take (need x.size.toNat)++blkL L ((need m:Nat)-(need x.size.toNat:Nat):Int)++x.b.drop (need x.size.toNat+(blkL L ((need m:Nat)-(need x.size.toNat:Nat):Int)).length)⟩,true)
 else (x,false)
theorem a8o{L:List (List Int)}{z:Int}(h:blkB L z=true):((blkL L z).length:Int)=z:=by
 rw[blkL,if_pos h,a2z,List.length_take]
 rw[blkB,decide_eq_true_eq] at h
 omega
theorem b2w{L:List (List Int)}{x:Ino}{m:Nat}(hx:x.b.length=4)(hm:m≤128)(h0:0≤x.size):(growV L x m).1.b.length=4:=by
 unfold growV
 split
 ·exact hx
 ·split
  ·rename_i h1 h2
   have hl:=a8o h2
   have hn:need m≤4:=by unfold need;omega
   simp[hx]
   omega
  ·exact hx
set_option maxRecDepth 100000 in
set_option maxHeartbeats 3200000 in
theorem fgrow(w:World)(g:Nat)(d:Value)(L:List (List Int))(x:Ino)(hx:x.b.length=4)(hs0:0≤x.size)(hs1:x.size≤128)(m:Nat)(hm:m≤128)(h:FK w g d L) :
  Calls Tryz.prog 124 #[.pointer (some ⟨g,0,none⟩),aggI x,.int .i64 (m:Int)] w (Rt w (.tuple #[aggI (growV L x m).1,.bool (growV L x m).2])):=by
 have HK:=ι h
 have H4:=ι hx
 have HV4:=ι (b2w (L:=L) hx hm hs0)
 obtain⟨zn,hzn⟩:=Int.eq_ofNat_of_zero_le hs0
 have HBK:=ι fun z (hz:wf64 z) w' (hb:Below w.heap.size w w')=>c0k w' d L z (HK.out.later hb).dk hz
 have HNM:=ι fun w'=>frequired m (by omega) w'
 have HNZ:=ι fun w'=>frequired zn (by omega) w'
 obtain⟨V,hV⟩:∃V,growV L x m=V:=⟨_,rfl⟩
 rw[hV]
 rw[hV] at HV4
 unfold growV at hV
 rw[hzn,Int.toNat_natCast] at hV
 have hnm:need m≤4:=by unfold need;omega
 have hnz:need zn≤4:=by unfold need;omega
 have hle:zn≤m→need zn≤need m:=by intro h;unfold need;omega
 generalize need m=nm at *
 generalize need zn=nz at *
 obtain⟨W,hW⟩:∃W,(w.alloc (.cells x.c.toArray 75)).alloc (.cells #[.int .i64 0,.int .i64 0,.int .i64 0,.int .i64 0,.int .i64 0,.int .i64 0] 75)=W:=⟨_,rfl⟩
 have A0:Hid (AtI W w.heap.size x):=ι (by rw[← hW];exact(a5s w x).later (a0a (Below.refl _ _) _))
 have R0:Hid (AtI W (w.heap.size+1) ino0):=ι (by rw[← hW];have:=a1s (w.alloc (.cells x.c.toArray 75));rw[World.size_alloc] at this;exact this)
 have B0:Hid (Below w.heap.size w W):=ι (by rw[← hW];exact a0a (a0a (Below.refl _ _) _) _)
 have hsW:Hid (W.heap.size=w.heap.size+2):=ι (by rw[← hW];simp[World.size_alloc])
 have c1:=A0.out.cell1
 rw[hzn] at c1
 have HZ:=ι hzn
 clear h hs0 hs1 hx
 by_cases hsm:(m:Int)≤(zn:Int)
 ·rw[if_pos hsm] at hV
  subst hV
  have hmz:m≤zn:=by omega
  clear hzn
  go_enter Tryz.func124,Tryz.ntmps124
  go_upto_region 1 with fail
  try rw[hW]
  clear hW
  go_wp2_with (first|(refine a0z rfl (.tmp 4) rfl w.heap.size rfl x H4.out A0.out ?_)|(refine a0m rfl (.tmp 6) (.tmp 15) rfl rfl (w.heap.size+1) x ino0 rfl rfl H4.out rfl R0.out ?_;intro w5 hA hB _;have A5:=ι hA;have B5:=ι (B0.out.trans (hB.mono (show w.heap.size≤w.heap.size+1 by omega)));clear hA hB))
  exact a6n rfl (w.heap.size+1) x (.bool true) rfl rfl H4.out A5.out rfl ⟨rfl,B5.out⟩
 ·rw[if_neg hsm] at hV
  have hmz:¬m≤zn:=by omega
  have hnn:=hle (by omega)
  have HWR:IntKind.i64.wrap ((nm:Int)-(nz:Int))=(nm:Int)-(nz:Int):=IntWalk.i64_in _ (by omega)
  have HBZ:=ι fun w' (hb:Below w.heap.size w w')=>HBK.out ((nm:Int)-(nz:Int)) (WalkArith.wf_i64 (by omega)) w' hb
  have HLN:=ι fun hb=>a8o (L:=L) (z:=(nm:Int)-(nz:Int)) hb
  generalize blkB L ((nm:Int)-(nz:Int))=bb at *
  generalize blkL L ((nm:Int)-(nz:Int))=fl at *
  clear HBK hle hzn
  go_enter Tryz.func124,Tryz.ntmps124
  go_upto_region 1 with fail
  try rw[hW]
  clear hW
  go_upto_region 4 with(go_at_call 37;refine(HNZ.out _).mono ?_;rintro e w1 ⟨rfl,hw1⟩;obtain rfl:=hw1)
  clear c1
  have D0:=ι (HK.out.later B0.out).row
  have HDd:=ι fun v (hv:Below W.drew.heap.size W.drew v)=>(FR.later (w:=W.drew) D0.out hv).disk
  have hBd:Hid (∀v,Below W.drew.heap.size W.drew v→Below w.heap.size w v):=ι fun v hv=>a0b B0.out (((Below.refl W.heap.size W).drew).trans hv)
  have h0:Below W.drew.heap.size W.drew W.drew:=Below.refl _ _
  refine wp_region_held_drew (S:=Below W.drew.heap.size W.drew) (by kernel_rfl) h0 (fun hH0 => ?_)
  refine tk 0 rfl ?_
  refine tk 1 rfl ?_
  refine tk 2 rfl ?_
  refine tkv 3 rfl (a0n (by rfl) 45 _ Tryz.underlying45 rfl _ rfl g 1 rfl _ (fun w' hw=>HDd.out w' hw)) ?_
  refine tk 4 rfl ?_
  refine tk 6 rfl ?_
  refine rd 5 rfl (fun K hK => ?_)
  go_simp
  refine(HNM.out _).mono ?_
  rintro e v1 ⟨rfl,hv1⟩
  obtain rfl:=hv1
  have h1:=h0
  dsimp only
  refine hK.out _ _ ?_ (fun hHeld => ?_)
  ·exact h1
  clear hK K
  try simp only[Act.put,List.setIfInBounds_toArray,List.set_cons_zero,List.set_cons_succ]
  refine tk 7 rfl ?_
  refine rd 8 rfl (fun K hK => ?_)
  go_simp
  refine(HBZ.out _ (hBd.out _ h1)).mono ?_
  rintro e v2 ⟨q,mm,kk,rfl,hmm,hr,hv2⟩
  have h2:=h1.trans (hv2.mono h1.size)
  have RF:=ι hr
  have VV:=ι h2
  clear hr
  dsimp only
  refine hK.out _ _ ?_ (fun hHeld => ?_)
  ·exact h2
  clear hK K
  try simp only[Act.put,List.setIfInBounds_toArray,List.set_cons_zero,List.set_cons_succ]
  refine tk 9 rfl ?_
  refine tk 10 rfl ?_
  refine tk 11 rfl ?_
  refine tk 12 rfl ?_
  refine tk 13 rfl ?_
  refine wpAnyH_done (by kernel_rfl) ?_ _
  have A2:Hid (AtI _ w.heap.size x):=ι (AtI.later (w:=W.drew) A0.out h2)
  have R2:Hid (AtI _ (w.heap.size+1) ino0):=ι (AtI.later (w:=W.drew) R0.out h2)
  have B2:=ι (hBd.out _ h2)
  cases bb with
  | false =>
   rw[if_neg (by decide)] at hV
   subst hV
   go_wp2_with (first|(refine a0z rfl (.tmp 4) rfl w.heap.size rfl x H4.out A2.out ?_)|(refine a0m rfl (.tmp 6) (.tmp 33) rfl rfl (w.heap.size+1) x ino0 rfl rfl H4.out rfl R2.out ?_;intro w5 hA hB _;have A5:=ι hA;have B5:=ι (B2.out.trans (hB.mono (show w.heap.size≤w.heap.size+1 by omega)));clear hA hB))
   exact a6n rfl (w.heap.size+1) x (.bool false) rfl rfl H4.out A5.out rfl ⟨rfl,B5.out⟩
  | true =>
   rw[if_pos rfl] at hV
   have hll:=HLN.out rfl
   have hll2:nz+fl.length≤4:=by omega
   have hnzi:(nz:Int)≤4:=by omega
   subst hmm
   obtain⟨y,hy⟩:∃y:Ino,(⟨x.kind,(m:Int),x.b.take nz++fl++x.b.drop (nz+fl.length)⟩:Ino)=y:=⟨_,rfl⟩
   have HYE:=ι hy
   rw[hy] at hV
   subst hV
   clear hy hll
   go_upto_region 8 with(first|(refine d2s rfl (.tmp 36) (.tmp 37) rfl w.heap.size nz x H4.out fl hll2 _ _ _ rfl (by simp) (fun hp=>(by have hne:¬(4=nz):=(by omega);simp[hne])) q _ kk rfl RF.out A2.out ?_;intro w3 v3 hA hB hT;have A3:=ι hA;have R3:Hid (AtI w3 (w.heap.size+1) ino0):=ι ((hT.block _ (Array.getElem?_eq_some_iff.1 R2.out).1 (by omega)).trans R2.out);have B3:=ι (B2.out.trans hB);clear hA hB hT))
   all_goals
    have c3:=A3.out.cell1
    have f3:=a0d A3.out 1
    go_upto_region 9 with fail
    have A4:Hid (AtI (w3.setCell ⟨w.heap.size,1,none⟩ (.int .i64 (m:Int))) w.heap.size y):=ι (by rw[← HYE.out];exact AtI.setS A3.out (m:Int))
    have R4:=ι (R3.out.setOther (g:=w.heap.size) (j:=1) (by omega) (.int .i64 (m:Int)))
    have B4:=ι (B3.out.setCell (p:=⟨w.heap.size,1,none⟩) (Nat.le_refl _) (.int .i64 (m:Int)))
    generalize w3.setCell ⟨w.heap.size,1,none⟩ (.int .i64 (m:Int))=w4 at *
    clear c3 f3
    go_wp2_with (first|(refine a0z rfl (.tmp 4) rfl w.heap.size rfl y HV4.out A4.out ?_)|(refine a0m rfl (.tmp 6) (.tmp 41) rfl rfl (w.heap.size+1) y ino0 rfl rfl HV4.out rfl R4.out ?_;intro w5 hA hB _;have A5:=ι hA;have B5:=ι (B4.out.trans (hB.mono (show w.heap.size≤w.heap.size+1 by omega)));clear hA hB))
    all_goals exact a6n rfl (w.heap.size+1) y (.bool true) rfl rfl HV4.out A5.out rfl ⟨rfl,B5.out⟩
end fs
namespace fs
set_option maxRecDepth 100000
open Go.ChangeShapes Go.WideShapes Go.ChangeAt Go.RowKit
open rows
open sec
open dsk (Wr)
open ly
open pa
open lk
open al
def stepF(L:List (List Int))(n:Int)(ob nb:List Int)(off:Nat)(b:List Int)(i:Nat):Wr:=⟨40+nb.getD i 0,putL (contV L (ob.getD i 0)) off b i,1,n,0⟩
theorem b8a{old:List Int}(ho:Sec old){b:List Int}(hb:∀x∈b,0≤x∧x<256)(off i:Nat):Sec (putL old off b i):=by
 refine⟨by simp[putL],fun x hx => ?_⟩
 obtain⟨j,hj,rfl⟩:=List.mem_map.1 hx
 split
 ·rename_i h
  have hl:32 * i+j-off<b.length:=by omega
  simp only[List.getD,List.getElem?_eq_getElem hl,Option.getD_some]
  exact hb _ (List.getElem_mem hl)
 ·exact a1q ho j
theorem d2h{old:List Int}(ho:old.length=32){b:List Int}{off k o i a pl:Nat}(hk:k<b.length)(hoo:o=off+k)(hi:i=o / 32)(ha:a=o % 32)(h0:k=0∨a=0)(hpl:pl=min (b.length-k) (32-a)) :
  splice old a ((b.drop k).take pl)=putL old off b i:=by
 have hpl1:pl≤32-a:=by omega
 have hpl2:pl≤b.length-k:=by omega
 have ha32:a<32:=by omega
 have hl:((b.drop k).take pl).length=pl:=by simp;omega
 have htl:(old.take a).length=a:=by rw[List.length_take,ho];omega
 unfold splice
 rw[hl]
 apply List.ext_getElem?
 intro j
 by_cases hj:j<32
 ·have hr:(putL old off b i)[j]? = some (if off≤32 * i+j∧32 * i+j<off+b.length then b.getD (32 * i+j-off) 0 else old.getD j 0):=by simp[putL,hj]
  rw[hr]
  have hoj:old[j]? = some (old.getD j 0):=by simp[List.getD,show j<old.length by omega]
  by_cases h1:j<a
  ·rw[List.getElem?_append_left (by rw[htl];omega),List.getElem?_take_of_lt h1,hoj,if_neg (by omega)]
  ·by_cases h2:j<a+pl
   ·rw[List.getElem?_append_right (by rw[htl];omega),htl,List.getElem?_append_left (by rw[hl];omega),List.getElem?_take_of_lt (by omega),List.getElem?_drop,if_pos (by omega)]
    have e:k+(j-a)=32 * i+j-off:=by omega
    rw[e]
    simp only[List.getD,List.getElem?_eq_getElem (show 32 * i+j-off<b.length by omega),Option.getD_some]
   ·rw[List.getElem?_append_right (by rw[htl];omega),htl,List.getElem?_append_right (by rw[hl];omega),hl,List.getElem?_drop,show a+pl+(j-a-pl)=j by omega,hoj,if_neg (by omega)]
 ·rw[List.getElem?_eq_none (by rw[List.length_append,List.length_append,htl,hl,List.length_drop,ho];omega),List.getElem?_eq_none (by simp[putL];omega)]
theorem c6u{off m i0 t:Nat}(hom:off+m≤128)(hi:i0=off / 32)(h1:0<t→32 * (i0+t-1)<off+m)(h2:m≤32 * (i0+t)-off)(h3:0<m→0<t)(h4:m=0→t=0):(List.range 4).filter (hitB off m)=List.range' i0 t:=by
 have key:∀(p:Nat→Bool),i0+t≤4→(∀i,i<4→p i=(decide (i0≤i) && decide (i<i0+t)))→(List.range 4).filter p=List.range' i0 t:=by
  intro p hle hp
  have p0:=hp 0 (by omega)
  have p1:=hp 1 (by omega)
  have p2:=hp 2 (by omega)
  have p3:=hp 3 (by omega)
  have e:List.range 4=[0,1,2,3]:=rfl
  rw[e]
  have e1:i0=0∨i0=1∨i0=2∨i0=3∨i0=4:=by omega
  have e2:t=0∨t=1∨t=2∨t=3∨t=4:=by omega
  clear h1 h2 h3 h4 hi hp hom
  rcases e1 with rfl|rfl|rfl|rfl|rfl<;>rcases e2 with rfl|rfl|rfl|rfl|rfl<;>first|(exfalso;omega)|(simp only[List.filter,p0,p1,p2,p3];rfl)
 by_cases hm:m=0
 ·have ht:=h4 hm
  subst hm ht
  rw[List.range'_zero,List.filter_eq_nil_iff]
  intro i _
  simp[hitB]
 ·have ht:=h3 (by omega)
  have h5:=h1 ht
  refine key _ (by omega) fun i hi4 => ?_
  unfold hitB
  rw[← Bool.decide_and]
  exact decide_eq_decide.2 (by omega)
theorem d4d{L:List (List Int)}{x y:Ino}{had i:Nat}(h1:i<had→1≤x.b.getD i 0∧y.b.getD i 0=x.b.getD i 0)(h2:¬i<had→x.b.getD i 0=0):contV L (x.b.getD i 0)=if i<had then L.getD (40+y.b.getD i 0).toNat zero32 else zero32:=by
 by_cases h:i<had
 ·obtain⟨h3,h4⟩:=h1 h
  rw[if_pos h,h4]
  generalize x.b.getD i 0=z at *
  rw[contV,if_neg (by omega),secAt]
  split
  ·rfl
  ·rename_i hh
   have:L.length≤(40+z).toNat:=by omega
   simp only[List.getD,List.getElem?_eq_none this,Option.getD_none]
 ·rw[if_neg h,h2 h]
  rfl
end fs
namespace fs
set_option maxRecDepth 100000
open Go.ChangeShapes Go.WideShapes Go.ChangeAt Go.RowKit
open rows
open sec
open dsk (a0c size_alloc a4i c3g Wr Wr.c a0n a0p)
open ly
open pa
open lk
open al
def AtA(w:World)(g:Nat)(l:List Int):Prop:=w.heap[g]? = some (.cells (i64s l).toArray 73 (0,0))
theorem AtA.lt{w:World}{g:Nat}{l:List Int}(h:AtA w g l):g<w.heap.size:=(Array.getElem?_eq_some_iff.1 h).1
theorem AtA.later{w w':World}{g:Nat}{l:List Int}(h:AtA w g l)(k:Below w.heap.size w w'):AtA w' g l:=(k.block g h.lt).trans h
theorem AtA.below{w w':World}{g B:Nat}{l:List Int}(h:AtA w g l)(k:Below B w w')(hg:g<B):AtA w' g l:=(k.block g hg).trans h
theorem AtA.cell{w:World}{g:Nat}{l:List Int}(h:AtA w g l){i:Nat}(hi:i<l.length):w.cell? ⟨g,i,none⟩=some (.int .i64 (l.getD i 0)) :=
 a0c h _ _ (by simp[i64s,List.getD,hi])
theorem c9g(w:World)(l:List Int):AtA (w.alloc (.cells (i64s l).toArray 73)) w.heap.size l:=heap_alloc_new _ _
theorem b6p(l:List (Wr×Bool))(x:Wr×Bool):stsC (l++[x])=stsC l++pstC x:=by simp[stsC]
theorem c6s{w:World}{B B':Nat}{e:TypeId}{sz n:Nat}{v:Value}{cs:List Value}(h:rows.Own w B e sz v n cs)(hB:B'≤B):rows.Own w B' e sz v n cs:=by
 refine⟨h.1,?_⟩
 rcases h.2 with h2|⟨g,cap,cur,hv,h3,h4,h5⟩
 ·exact Or.inl h2
 ·exact Or.inr ⟨g,cap,cur,hv,Nat.le_trans hB h3,h4,h5⟩
theorem rd_pre1{w:World}{sz r c pl:Nat}{p:Option Addr}{cs:List Value}(h:Rd w sz (.slice p r c) r cs)(hs:sz=1)(hl:pl≤r)(h0:0<pl):Rd w sz (.slice p pl c) pl (cs.take pl):=by
 subst hs
 rcases h with⟨_,_,_,h1,_⟩|⟨b,off,cap,h1,h2,h3,h4,h5,h6,h7⟩
 ·omega
 ·cases h1
  refine Or.inr ⟨b,off,c,rfl,h0,by omega,h4,h5,by rw[List.length_take];omega,fun j u hj=>h7 j u ?_⟩
  rw[List.getElem?_take] at hj
  split at hj
  ·exact hj
  ·cases hj
theorem rd_rest{w:World}{r c pl:Nat}{p:Option Addr}{cs:List Value}(h:Rd w 1 (.slice p r c) r cs)(hl:pl≤r)(h0:0<pl):∀p2,(p2=if c=pl then p else p.map fun x=>x.add pl)→Rd w 1 (.slice p2 (r-pl) (c-pl)) (r-pl) (cs.drop pl):=by
 intro p2 hp2
 rcases h with⟨_,_,_,h1,_⟩|⟨b,off,cap,h1,h2,h3,h4,h5,h6,h7⟩
 ·omega
 ·cases h1
  by_cases hrp:r-pl=0
  ·rw[hrp]
   refine Or.inl ⟨p2,c-pl,rfl,rfl,List.drop_of_length_le (by omega),fun hn => ?_⟩
   rw[hp2] at hn
   split at hn
   ·cases hn
   ·cases hn
  ·rw[if_neg (by omega)] at hp2
   subst hp2
   refine Or.inr ⟨b,off+pl,c-pl,by simp[Addr.add_mid],by omega,by omega,by omega,h5,by rw[List.length_drop];omega,fun j u hj => ?_⟩
   rw[List.getElem?_drop] at hj
   rw[Nat.add_assoc]
   exact h7 _ u hj
def fillL(L:List (List Int))(n:Int)(ob nb:List Int)(off:Nat)(b:List Int)(is:List Nat):List (Wr×Bool):=is.map fun i=>(stepF L n ob nb off b i,false)
theorem c5n(L:List (List Int))(n:Int)(ob nb:List Int)(off:Nat)(b:List Int)(i0 t:Nat):stsC (fillL L n ob nb off b (List.range' i0 (t+1)))=stsC (fillL L n ob nb off b (List.range' i0 t))++stC (stepF L n ob nb off b (i0+t)) false:=by
 rw[List.range'_concat,Nat.one_mul,fillL,List.map_append,List.map_cons,List.map_nil,b6p]
 rfl
set_option maxRecDepth 100000 in
set_option maxHeartbeats 6400000 in
theorem ffill(w:World)(g:Nat)(d:Value)(L:List (List Int))(h:FK w g d L)(n:Int)(ob nb:List Int)(ho4:ob.length=4)(hn4:nb.length=4)(hob:∀i,0≤ob.getD i 0∧ob.getD i 0≤200)(hnb:∀i,0≤nb.getD i 0∧nb.getD i 0≤200)(off m:Nat)(p:Option Addr)(c:Nat)(b:List Int)(hb:Rd w 1 (.slice p m c) m (u8s b))(hbb:∀x∈b,0≤x∧x<256)(hom:off+m≤128) :
  Calls Tryz.prog 125 #[.pointer (some ⟨g,0,none⟩),.int .i64 n,.agg (i64s ob).toArray,.agg (i64s nb).toArray,.int .i64 (off:Int),.slice p m c] w fun e w'=>∃q k c',e = .returned (.slice q k c')∧k=((List.range 4).filter (hitB off m)).length∧rows.Own w' w.heap.size 187 37 (.slice q k c') k (stsC (fillL L n ob nb off b ((List.range 4).filter (hitB off m))))∧Below w.heap.size w w':=by
 have HK:=ι h
 have hbl:b.length=m:=by have:=hb.cells;simpa [u8s] using this
 have HB:=ι hb
 have HBB:=ι hbb
 have HBL:=ι hbl
 have HO4:=ι ho4
 have HN4:=ι hn4
 have HOB:=ι hob
 have HNB:=ι hnb
 have HS:=ι h.dk.secs.1
 have hom':=hom
 obtain⟨W,hW⟩:∃W,(w.alloc (.cells (i64s ob).toArray 73)).alloc (.cells (i64s nb).toArray 73)=W:=⟨_,rfl⟩
 have A0:Hid (AtA W w.heap.size ob):=ι (by rw[← hW];exact(c9g w ob).later (a0a (Below.refl _ _) _))
 have N0:Hid (AtA W (w.heap.size+1) nb):=ι (by rw[← hW];have:=c9g (w.alloc (.cells (i64s ob).toArray 73)) nb;rw[World.size_alloc] at this;exact this)
 have B0:Hid (Below w.heap.size w W):=ι (by rw[← hW];exact a0a (a0a (Below.refl _ _) _) _)
 have hsW:Hid (W.heap.size=w.heap.size+2):=ι (by rw[← hW];simp[World.size_alloc])
 clear h hb hbb ho4 hn4 hob hnb hbl
 obtain⟨HL,hHL⟩:∃HL,(List.range 4).filter (hitB off m)=HL:=⟨_,rfl⟩
 rw[hHL]
 have HHL:=ι hHL
 clear hHL
 go_enter Tryz.func125,Tryz.ntmps125
 go_upto_region 1 with fail
 try rw[hW]
 clear hW
 go_wp2_with fail
 go_loopw [4,5,13,14,15,16,17,18] (fun ov bv sv _ _ _ _ _ wr=>∃(t k o r:Nat) (p':Option Addr) (c':Nat) (q:Option Addr) (kc:Nat),k=min m (32 * (off / 32+t)-off)∧o=off+k∧r=m-k∧(0<t→32 * (off / 32+t-1)<off+m)∧(0<k→0<t)∧(m=0→t=0)∧ov = .int .i64 (o:Int)∧bv = .slice p' r c'∧sv = .slice q t kc∧Hid (Rd w 1 (.slice p' r c') r (u8s (b.drop k)))∧Hid (rows.Own wr (w.heap.size+2) 187 37 (.slice q t kc) t (stsC (fillL L n ob nb off b (List.range' (off / 32) t))))∧Hid (Below (w.heap.size+2) W wr)) (fun _ bv _ _ _ _ _ _ _=>(match bv with | .slice _ n _=>n|_=>0))
 case atStart=>exact⟨0,0,off,m,p,c,none,0,by omega,by omega,by omega,(fun h=>by omega),(fun h=>by omega),(fun _=>rfl),rfl,rfl,rfl,ι (by simpa using HB.out),ι (by simp[fillL,stsC];exact a2q _ _ _ _),ι (Below.refl _ _)⟩
 case round =>
  obtain⟨t,k,o,r,p',c',q,kc,hk,ho,hr,h1,h2,h3,rfl,rfl,rfl,HR,HO,HBw⟩:=hrel
  have HBB0:=ι (B0.out.trans (HBw.out.mono (show w.heap.size≤w.heap.size+2 by omega)))
  by_cases hr0:0<r
  ·have hr0i:(0:Int)<r:=by omega
   have hkm:k<m:=by omega
   have hk2:k=32 * (off / 32+t)-off:=by omega
   obtain⟨i,hi⟩:∃i,i=o / 32:=⟨_,rfl⟩
   obtain⟨a,ha⟩:∃a,a=o % 32:=⟨_,rfl⟩
   have hit:i=off / 32+t:=by omega
   have hi4:i<4:=by omega
   have ha32:a<32:=by omega
   have hk0:k=0∨a=0:=by omega
   have hq1:(o:Int) / 32=(i:Int):=by omega
   have hq2:(o:Int) % 32=(a:Int):=by omega
   obtain⟨pl,hpl⟩:∃pl,pl=min (b.length-k) (32-a):=⟨_,rfl⟩
   have HPP:=ι fun old (ho':old.length=32)=>d2h (old:=old) (b:=b) (off:=off) (k:=k) (o:=o) (i:=i) (a:=a) (pl:=pl) ho' (by rw[HBL.out];exact hkm) ho hi ha hk0 hpl
   rw[HBL.out] at hpl
   have hmin:min (r:Int) (32-(a:Int))=(pl:Int):=by omega
   have hmin2:min (32-(a:Int)) (r:Int)=(pl:Int):=by omega
   have hplr:(pl:Int)≤(r:Int):=by omega
   have hpl0:0<pl:=by omega
   have hrc:r≤c':=by
    rcases HR.out with⟨_,_,_,h0,_⟩|⟨_,_,_,h1,_,h3,_⟩
    ·omega
    ·cases h1;exact h3
   have hplc:(pl:Int)≤(c':Int):=by omega
   have HKE:=ι hk
   have HOE:=ι ho
   have HRE:=ι hr
   have HIE:=ι hit
   have HAE:=ι ha
   have HPE:=ι hpl
   have HIO:=ι hi
   have HH1:=ι h1
   clear h1 h2 h3 hk0 hk2 hk ho hr hit ha hpl hi hrc
   have hi4i:(i:Int)<4:=by omega
   have AW:=ι (A0.out.below HBw.out (show w.heap.size<w.heap.size+2 by omega))
   have NW:=ι (N0.out.below HBw.out (show w.heap.size+1<w.heap.size+2 by omega))
   have cob:=AW.out.cell (i:=i) (by rw[HO4.out];exact hi4)
   have hobi:=HOB.out i
   have hnbi:=HNB.out i
   have HCO:=ι fun w' (hb:Below w.heap.size w w')=>fcontent w' g d L (ob.getD i 0) (HK.out.later hb) hobi
   have HSC:=ι (a5z HS.out (ob.getD i 0))
   have HPP2:=ι (HPP.out (contV L (ob.getD i 0)) HSC.out.1)
   have HPS:=ι (b8a HSC.out HBB.out off i)
   have HXE:Hid (stepF L n ob nb off b i=⟨40+nb.getD i 0,putL (contV L (ob.getD i 0)) off b i,1,n,0⟩):=ι rfl
   have HFS:=ι (c5n L n ob nb off b (off / 32) t)
   rw[← HIE.out] at HFS
   generalize stepF L n ob nb off b i=X at *
   generalize putL (contV L (ob.getD i 0)) off b i=s at *
   generalize contV L (ob.getD i 0)=cs at *
   generalize ob.getD i 0=obi at *
   generalize hnn:nb.getD i 0=nbi at *
   have HBS:=ι fun w'=>fblockStep n nbi hnbi s HPS.out w'
   rw[← HXE.out] at HBS
   have HXS:Hid (Sec X.s):=ι (by rw[HXE.out];exact HPS.out)
   have cnb0:=NW.out.cell (i:=i) (by rw[HN4.out];exact hi4)
   rw[hnn] at cnb0
   have CNB:=ι cnb0
   have HPUT:=ι fun w' (hb:Below w.heap.size w w')=>put_yes cs ((b.drop k).take pl) a pl c' p' w' HSC.out (by
    have:=rd_pre1 (pl:=pl) (HR.out.later hb) rfl (by have:=HPE.out;omega) hpl0
    simpa [u8s,List.map_take] using this) (by have:=HPE.out;omega)
   rw[HPP2.out] at HPUT
   clear HPP HPP2 cnb0 hnn
   go_upto_region 6 with(first
    | (go_at_call 38;refine(HCO.out _ HBB0.out).mono ?_;rintro e w4 ⟨rfl,hb⟩;have B4:=ι hb;have BB4:=ι (a0b HBB0.out hb);clear hb)
    | (go_at_call 171;refine(HPUT.out _ BB4.out).mono ?_;rintro e w5 ⟨rfl,hb⟩;have B5:=ι (a0b B4.out hb);clear hb)
    | (refine a0k rfl (.tmp 17) (.tmp 42) rfl rfl w5.heap.size s zero32 rfl rfl HPS.out.1 (by decide) (a1n w5) ?_;intro w6 hA hB _;have hb:=(a0a (Below.refl _ w5) _).trans hB;have B6:=ι (a0b B5.out hb);have S6:=ι hA;clear hA hB hb))
   clear cob
   have hz6:wr.heap.size≤w5.heap.size:=B5.out.size
   have HO6:=ι (a1g HO.out B6.out)
   have hwz:w.heap.size+2≤wr.heap.size:=by have h1:=HBw.out.size;rw[hsW.out] at h1;exact h1
   have HNQ:Hid (∀x,(Value.slice q t kc).ownBlock=some x→w.heap.size+2≤x∧x<wr.heap.size):=ι fun x hx=>dsk.a2x HO.out hx
   have HNC:Hid (∀v,dsk.Touch (fun x=>(Value.slice q t kc).ownBlock=some x) w6.drew v→v.cell? ⟨w.heap.size+1,i,none⟩=some (.int .i64 nbi)):=ι fun v hv=>by
    have e1:w6.drew.cell? ⟨w.heap.size+1,i,none⟩=some (.int .i64 nbi):=(B6.out.cell (p:=⟨w.heap.size+1,i,none⟩) (by show w.heap.size+1<wr.heap.size;omega)).trans CNB.out
    exact(hv.cell (p:=⟨w.heap.size+1,i,none⟩) (by have:=B6.out.size;show w.heap.size+1<w6.heap.size;omega) (fun hh=>by have:=HNQ.out _ hh;have h9:w.heap.size+2≤w.heap.size+1:=this.1;omega)).trans e1
   have HSA:Hid (∀v,dsk.Touch (fun x=>(Value.slice q t kc).ownBlock=some x) w6.drew v→At v w5.heap.size s):=ι fun v hv=>(hv.block _ (Array.getElem?_eq_some_iff.1 S6.out).1 (fun hh=>by have:=HNQ.out _ hh;omega)).trans S6.out
   have h0:=dsk.Touch.refl (fun x=>(Value.slice q t kc).ownBlock=some x) w6.drew
   have b0:Below w6.drew.heap.size w6.drew w6.drew:=Below.refl _ _
   refine wp_region_held_drew (S:=dsk.Touch (fun x=>(Value.slice q t kc).ownBlock=some x) w6.drew) (by kernel_rfl) h0 (fun hH0 => ?_)
   refine tk 0 rfl ?_
   refine tk 1 rfl ?_
   refine tk 2 rfl ?_
   refine tk 3 rfl ?_
   refine tkv 4 rfl (a0n (by rfl) 3 _ Tryz.underlying3 rfl _ rfl (w.heap.size+1) i rfl (.int .i64 nbi) (fun w' hw=>HNC.out w' hw)) ?_
   refine tkv 5 rfl (a5p (by rfl) _ rfl w5.heap.size 0 rfl s HPS.out.1 (fun w' hw=>(HSA.out w' hw).range)) ?_
   refine rd 6 rfl (fun K hK => ?_)
   go_simp
   refine(HBS.out _).mono ?_
   rintro e v1 ⟨rfl,hv1⟩
   have b1:=b0.trans (hv1.mono b0.size)
   have h1:=dsk.Touch.of_below (S:=fun x=>(Value.slice q t kc).ownBlock=some x) b1
   dsimp only
   refine hK.out _ _ ?_ (fun hHeld => ?_)
   ·exact h1
   clear hK K
   try simp only[Act.put,List.setIfInBounds_toArray,List.set_cons_zero,List.set_cons_succ]
   refine rd 7 rfl (fun K hK => ?_)
   refine a4i elem_sts (by decide) (by rfl) (.tmp 50) rfl (stC X false) rfl (a1c HXS.out) ?_
   have h2:dsk.Touch (fun x=>(Value.slice q t kc).ownBlock=some x) w6.drew (v1.alloc (.cells (stC X false).toArray 187)):=(h1).alloc _
   have RL:=a0p v1 187 37 (stC X false) (a1c HXS.out)
   have HO7:=ι (a1g (w:=w6.drew) HO6.out (a0a b1 (.cells (stC X false).toArray 187)))
   have BX:=ι (a0a b1 (.cells (stC X false).toArray 187))
   refine hK.out _ _ ?_ (fun hHeld => ?_)
   ·exact h2
   clear hK K
   try simp only[Act.put,List.setIfInBounds_toArray,List.set_cons_zero,List.set_cons_succ]
   refine rd 8 rfl (fun K hK => ?_)
   refine c3g elem_sts (by rfl) (.tmp 44) (.tmp 51) rfl (w.heap.size+2) (.slice q t kc) t _ rfl HO7.out _ 1 (stC X false) rfl RL (b5p X false) (by have:=HIE.out;omega) (by have h8:=BX.out.size;have h9:wr.heap.size≤w6.heap.size:=B6.out.size;exact Nat.le_trans hwz (Nat.le_trans h9 h8)) ?_
   intro pa ca w7 ho7 hb7 ht7
   have HO8:=ι ho7
   have BY:=ι hb7
   have h3:=(h2).trans ht7
   clear ho7
   dsimp only
   refine hK.out _ _ ?_ (fun hHeld => ?_)
   ·exact h3
   clear hK K
   try simp only[Act.put,List.setIfInBounds_toArray,List.set_cons_zero,List.set_cons_succ]
   refine tk 9 rfl ?_
   refine wpAnyH_done (by kernel_rfl) ?_ _
   have HOX:Hid (rows.Own w7 (w.heap.size+2) 187 37 (.slice pa (t+1) ca) (t+1) (stsC (fillL L n ob nb off b (List.range' (off / 32) (t+1))))):=ι (by rw[HFS.out];exact HO8.out)
   have BZ:Hid (Below (w.heap.size+2) W w7):=ι (HBw.out.trans (((B6.out.mono hwz).trans (((Below.refl (w.heap.size+2) w6).drew).trans (BX.out.mono (by have h9:wr.heap.size≤w6.heap.size:=B6.out.size;exact Nat.le_trans hwz h9)))).trans BY.out))
   have HRR:=ι (rd_rest HR.out (pl:=pl) (by omega) hpl0)
   clear HO8 HFS
   go_wp2_with fail
   all_goals
    go_roundw
    case rel=>exact⟨t+1,k+pl,o+pl,r-pl,_,_,pa,ca,by have:=HKE.out;have:=HPE.out;have:=HRE.out;have:=HOE.out;have:=HIE.out;have:=HAE.out;have:=HIO.out;omega,by have:=HOE.out;omega,by have:=HRE.out;omega,by intro _;have:=HKE.out;have:=HRE.out;have:=HPE.out;omega,by intro _;omega,by intro hm;have:=HRE.out;omega,by go_num,rfl,rfl,ι (by have:=HRR.out _ (by first|rfl|simp_all);rw[← List.drop_drop];simpa [u8s,List.map_drop] using this),HOX,BZ⟩
    case measure=>simp;omega
  ·have hr0i:¬(0:Int)<r:=by omega
   have HEQ:Hid (HL=List.range' (off / 32) t):=ι (HHL.out.symm.trans (c6u hom' rfl h1 (by omega) (fun h=>h2 (by omega)) h3))
   have HO9:Hid (rows.Own wr w.heap.size 187 37 (.slice q t kc) t (stsC (fillL L n ob nb off b (List.range' (off / 32) t)))):=ι (c6s HO.out (by omega))
   clear hk ho hr h1 h2 h3
   go_wp2_with fail
   go_ret
   rw[HEQ.out]
   exact⟨q,t,kc,rfl,by simp,HO9.out,HBB0.out⟩
end fs
end Go.Proofs.YtpnahagiojelbaaGreatDoor
