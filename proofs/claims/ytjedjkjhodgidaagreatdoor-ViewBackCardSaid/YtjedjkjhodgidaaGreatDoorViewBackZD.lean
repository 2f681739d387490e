/- What ViewBack wants, part 30. -/
import Derived.Test.YtjedjkjhodgidaaGreatDoorViewBackA
import Derived.Test.YtjedjkjhodgidaaGreatDoorViewBackB
import Derived.Test.YtjedjkjhodgidaaGreatDoorViewBackD
import Derived.Test.YtjedjkjhodgidaaGreatDoorViewBackE
import Derived.Test.YtjedjkjhodgidaaGreatDoorViewBackI
import Derived.Test.YtjedjkjhodgidaaGreatDoorViewBackK
import Derived.Test.YtjedjkjhodgidaaGreatDoorViewBackQ
import Derived.Test.YtjedjkjhodgidaaGreatDoorViewBackR
import Derived.Test.YtjedjkjhodgidaaGreatDoorViewBackT
import Derived.Test.YtjedjkjhodgidaaGreatDoorViewBackU
import Derived.Test.YtjedjkjhodgidaaGreatDoorViewBackV
import Derived.Test.YtjedjkjhodgidaaGreatDoorViewBackW
import Derived.Test.YtjedjkjhodgidaaGreatDoorViewBackX
import Derived.Test.YtjedjkjhodgidaaGreatDoorViewBackZB
import Derived.Test.YtjedjkjhodgidaaGreatDoorViewBackZC
import Derived.Test.YtjedjkjhodgidaaGreatDoorViewBackShf
import Derived.Shelf.SlMaps.Clone
import Derived.IntWalk
import Derived.Lib.SliceRun
set_option linter.unusedVariables false
set_option linter.unusedSimpArgs false
namespace Go.Proofs.YtjedjkjhodgidaaGreatDoor
namespace lk
set_option maxRecDepth 100000
open Go.Sort Go.Lib
open Go.ChangeShapes Go.WideShapes Go.ChangeAt Go.RowKit
open rows
open rng
theorem enc_str(x:ByteArray):encStr x.data.toList = .string x:=by
 show Value.string ⟨x.data.toList.toArray⟩ = .string x
 rw[Array.toArray_toList]
theorem c0e(L:List ByteArray):strV L=(L.map fun x=>x.data.toList).map encStr:=by
 rw[strV,List.map_map]
 exact List.map_congr_left fun x _=>(enc_str x).symm
theorem b2b{B0 B:Nat}{w w':World}{e:TypeId}{sz n:Nat}{v:Value}{cs:List Value}(h:rows.Own w B e sz v n cs)(k:rng.Calm B0 w w'):rows.Own w' B e sz v n cs:=by
 refine⟨h.1,?_⟩
 rcases h.2 with h2|⟨g,cap,cur,hv,h3,h4,h5⟩
 ·exact Or.inl h2
 ·exact Or.inr ⟨g,cap,cur,hv,h3,k.block g _ h4 (Or.inr rfl),h5⟩
theorem b9x{w:World}{B:Nat}{e:TypeId}{p:Option Addr}{n c k:Nat}{cs:List Value}(h:rows.Own w B e 1 (.slice p n c) n cs)(hk:k≤n)(hp:p=none→c=0):Rd w 1 (.slice p k c) k (cs.take k):=by
 by_cases h0:k=0
 ·subst h0
  exact Or.inl ⟨p,c,rfl,rfl,rfl,hp⟩
 ·rcases h.rd with⟨p',cap',h1,rfl,rfl,h2⟩|⟨b,off,cap',h1,h2,h3,h4,h5,h6,h7⟩
  ·omega
  ·cases h1
   refine Or.inr ⟨b,off,c,rfl,by omega,by omega,h4,h5,?_,fun i u hi=>h7 i u ?_⟩
   ·rw[List.length_take,h6];omega
   ·rw[List.getElem?_take] at hi
    split at hi
    ·exact hi
    ·cases hi
theorem c0h{w:World}{B:Nat}{e:TypeId}{p:Option Addr}{n c:Nat}{cs:List Value}(h:rows.Own w B e 1 (.slice p n c) n cs):p=none→c=0:=by
 rintro rfl
 rcases h.2 with⟨h1,h2⟩|⟨g,cap,cur,h1,_⟩
 ·cases h1;rfl
 ·cases h1
theorem csort(p:Option Addr)(n c B:Nat)(zs:List (List UInt8))(w:World)(hn:n≤1000000)(h:rows.Own w B 9 1 (.slice p n c) n (zs.map encStr)) :
  Calls Tryz.prog 131 #[.slice p n c] w fun e w'=>e = .returned (.tuple #[])∧rows.Own w' B 9 1 (.slice p n c) n ((zs.mergeSort fun x y=>decide (x≤y)).map encStr)∧dsk.Touch (fun k=>(Value.slice p n c).ownBlock=some k) w w':=by
 have hl:zs.length=n:=by
  have:=h.1
  simpa using this
 by_cases h0:n=0
 ·subst h0
  refine(Tryz.slices_Sort_string_none p c w).mono ?_
  rintro e w' ⟨rfl,rfl⟩
  obtain rfl:zs=[]:=List.eq_nil_of_length_eq_zero hl
  exact⟨rfl,by simpa using h,dsk.Touch.refl _ _⟩
 ·rcases h.2 with⟨h1,h2⟩|⟨g,cap,cur,h1,h2,h3,h4,h5,h6,h7⟩
  ·exact absurd h2 h0
  ·cases h1
   rw[Nat.mul_one] at h7
   subst hl
   refine(Tryz.slices_Sort_string g 0 c zs w (holds_of_block h3 h7) (Array.getElem?_eq_some_iff.1 h3).1 (by omega)).mono ?_
   rintro e w' ⟨rfl,m,os,rfl⟩
   refine⟨rfl,ownsRow_sorted (List.length_mergeSort _) h2 h3 h4 h5 h6,?_⟩
   have hg:=grownBy_sorted (w:=w) (g:=g) (n:=m) (os:=os) (zs.mergeSort fun x y=>decide (x≤y)).toArray
   exact⟨hg.os,hg.tape,hg.output,hg.size,fun k hk hn=>hg.block k hk fun e=>hn (by rw[e];rfl)⟩
theorem ccompact(p:Option Addr)(n c B:Nat)(ys:List (List UInt8))(w:World)(hn:n≤1000000)(h:rows.Own w B 9 1 (.slice p n c) n (ys.map encStr)) :
  Calls Tryz.prog 132 #[.slice p n c] w fun e w'=>e = .returned (.slice p (Lib.compact ys).length c)∧(∃us,rows.Own w' B 9 1 (.slice p n c) n ((Lib.compact ys++us).map encStr))∧dsk.Touch (fun k=>(Value.slice p n c).ownBlock=some k) w w':=by
 have hl:ys.length=n:=by
  have:=h.1
  simpa using this
 by_cases h0:n=0
 ·subst h0
  refine(Tryz.slices_Compact_string_empty p c w).mono ?_
  rintro e w' ⟨rfl,rfl⟩
  obtain rfl:ys=[]:=List.eq_nil_of_length_eq_zero hl
  exact⟨rfl,⟨[],by simpa [Lib.compact,compactUpTo] using h⟩,dsk.Touch.refl _ _⟩
 ·rcases h.2 with⟨h1,h2⟩|⟨g,cap,cur,h1,h2,h3,h4,h5,h6,h7⟩
  ·exact absurd h2 h0
  ·cases h1
   rw[Nat.mul_one] at h7
   subst hl
   refine(Tryz.slices_Compact_string g 0 c ys w (holds_of_block h3 h7) (by omega) h4).mono ?_
   rintro e w' ⟨rfl,q,rfl⟩
   have hlen:=compact_length_le ys
   have e1:(Lib.compact ys++List.replicate (ys.length-(Lib.compact ys).length) ([]:List UInt8)).length=ys.length:=by
    rw[List.length_append,List.length_replicate];omega
   generalize List.replicate (ys.length-(Lib.compact ys).length) ([]:List UInt8)=us at *
   refine⟨rfl,⟨us,?_⟩,?_⟩
   ·have:=ownsRow_sorted (w:=w) (base:=B) (n:=q) (os := #[]) (ts:=Lib.compact ys++us) e1 h2 h3 h4 h5 h6
    rw[grow_empty] at this
    exact this
   ·have hg:=grownBy_sorted (w:=w) (g:=g) (n:=q) (os := #[]) (Lib.compact ys++us).toArray
    rw[grow_empty] at hg
    exact⟨hg.os,hg.tape,hg.output,hg.size,fun k hk hn=>hg.block k hk fun e=>hn (by rw[e];rfl)⟩
end lk
namespace lk
set_option maxRecDepth 100000
open Go.ChangeShapes Go.WideShapes Go.ChangeAt Go.RowKit
open rows
open sec
open dsk (a1k a1r a7s)
open ly
open rng
attribute [local go_sem] Oper.semAt_some
def named(ss:List (List Int))(l:List Nat):List ByteArray:=l.map fun(k:Nat)=>(entAt ss (k:Int)).name
theorem a9i(p:Nat→Bool)(m:Nat):(those p m).length≤m:=by
 have:=List.length_filter_le p (List.range m)
 rwa [List.length_range] at this
def bytesL(L:List ByteArray):List (List UInt8):=L.map fun x=>x.data.toList
def strsL(l:List (List UInt8)):List ByteArray:=l.map fun x=>⟨x.toArray⟩
theorem b9g(l:List (List UInt8)):strV (strsL l)=l.map encStr:=by
 rw[strV,strsL,List.map_map];rfl
theorem b4w(ss:List (List Int))(i:Int):IsList ss i (strsL (risen (bytesL (named ss (those (inDir ss i) 24))))):=by
 obtain⟨h1,h2⟩:=b9f (bytesL (named ss (those (inDir ss i) 24)))
 refine⟨?_,fun x => ?_⟩
 ·rw[strsL,List.pairwise_map]
  refine h1.imp fun {a b} hab => ?_
  rw[b2r,decide_eq_true_eq]
  simpa [ByteArray.toList_eq] using hab
 ·rw[strsL,List.mem_map]
  constructor
  ·rintro⟨y,hy,rfl⟩
   obtain⟨z,hz,rfl⟩:=List.mem_map.1 ((h2 y).1 hy)
   obtain⟨k,hk,rfl⟩:=List.mem_map.1 hz
   obtain⟨h3,h4⟩:=those_mem.1 hk
   rw[inDir,Bool.and_eq_true,decide_eq_true_eq] at h4
   exact⟨k,h3,h4.1,h4.2,by simp⟩
  ·rintro⟨k,h3,h4,h5,rfl⟩
   refine⟨(entAt ss (k:Int)).name.data.toList,(h2 _).2 (List.mem_map.2 ⟨_,List.mem_map.2 ⟨k,those_mem.2 ⟨h3,?_⟩,rfl⟩,rfl⟩),by simp⟩
   rw[inDir,h4,h5,decide_eq_true rfl];rfl
structure NmsI (w:World) (B:Nat) (ss:List (List Int)) (pre:List Nat) (p:Option Addr) (n c:Nat) (W:World):Prop where
 box:Go.Boxed W w.heap.size 113 (.slice p n c)
 own:rows.Own W 0 9 1 (.slice p n c) n (strV (named ss pre))
 len:n=pre.length
 low:∀k,(Value.slice p n c).ownBlock=some k→B≤k
 below:Below w.heap.size w W
theorem NmsI.calm{w:World}{B:Nat}{ss:List (List Int)}{pre:List Nat}{p:Option Addr}{n c:Nat}{a b:World}(h:NmsI w B ss pre p n c a)(hB:w.heap.size≤B)(k:rng.Calm B a b):NmsI w B ss pre p n c b :=
 ⟨k.boxed h.box,b2b h.own k,h.len,h.low,h.below.trans (k.below hB h.below.size)⟩
theorem c0x{w:World}{B:Nat}{e:TypeId}{sz n:Nat}{v:Value}{cs:List Value}(h:rows.Own w B e sz v n cs){k:Nat}(hk:v.ownBlock=some k):∃cur,w.heap[k]? = some (.cells cur e (0,0)):=by
 rcases h.2 with⟨rfl,_⟩|⟨g,cap,cur,rfl,h3,h4,_⟩
 ·simp[Value.ownBlock] at hk
 ·obtain rfl:g=k:=by simpa [Value.ownBlock] using hk
  exact⟨_,h4⟩
theorem a7d{Z:Nat→Prop}{W W':World}{B:Nat}{t:TypeId}{v:Value}(h:Go.Boxed W B t v)(ht:dsk.Touch Z W W')(hT:¬Z B):Go.Boxed W' B t v:=(ht.block B h.lt hT).trans h
theorem b1q{cur:Array Value}:softE (.cells cur 9 (0,0)):=⟨cur,_,_,rfl,by decide,by decide⟩
set_option maxRecDepth 100000 in
set_option maxHeartbeats 2000000 in
theorem b8l(w:World)(d:Value)(ss:List (List Int))(i:Int)(h:Dk w d ss):Calls Tryz.prog 79 #[d,.int .i64 i] w fun e w'=>∃L q m k,IsList ss i L∧e = .returned (.slice q m k)∧m=L.length∧Rd w' 1 (.slice q m k) m (strV L)∧Below w.heap.size w w'∧(q=none∨∃g cs,q=some ⟨g,0,none⟩∧w.heap.size≤g∧w'.heap[g]? = some (.cells cs 9 (0,0))):=by
 have HD:=ι h
 obtain⟨p,rfl⟩:=b6z h
 clear h
 have hB0:=a0b (a0b (a0b (Below.refl w.heap.size w) (.cells #[.slice none 0 0] 113)) (.cells #[.pointer p] 28)) (.cells #[.int .i64 i] 3)
 have b0:=((Go.Boxed.new w 113 (.slice none 0 0)).alloc (.cells #[.pointer p] 28)).alloc (.cells #[.int .i64 i] 3)
 have b3:=(Go.Boxed.new (w.alloc (.cells #[.slice none 0 0] 113)) 28 (.pointer p)).alloc (.cells #[.int .i64 i] 3)
 have b4:=Go.Boxed.new ((w.alloc (.cells #[.slice none 0 0] 113)).alloc (.cells #[.pointer p] 28)) 3 (.int .i64 i)
 simp only[World.size_alloc] at b3 b4
 have hsz:(((w.alloc (.cells #[.slice none 0 0] 113)).alloc (.cells #[.pointer p] 28)).alloc (.cells #[.int .i64 i] 3)).heap.size=w.heap.size+3:=by simp[World.size_alloc]
 obtain⟨W0,hW0⟩:∃W0,((w.alloc (.cells #[.slice none 0 0] 113)).alloc (.cells #[.pointer p] 28)).alloc (.cells #[.int .i64 i] 3)=W0:=⟨_,rfl⟩
 rw[hW0] at hB0 b0 b3 b4 hsz
 have HB0:=ι hB0
 have B0:=ι b0
 have B3:=ι b3
 have B4:=ι b4
 have HSZ:=ι hsz
 have hwz:w.heap.size≤W0.heap.size:=by omega
 clear hB0 b0 b3 b4 hsz
 refine(callsIn_wide (n:=10)).1 (callsIn_of_wp_marks Tryz.func79 rfl trivial ?_ rfl)
 simp only[Tryz.ntmps79,List.size_toArray,List.length_cons,List.length_nil,Nat.reduceAdd,Nat.reduceSub,Array.replicate_succ,Array.replicate_zero,List.push_toArray,List.append_toArray,List.nil_append,List.cons_append]
 gi_wp2_with (refine⟨trivial,?_⟩;gi_at_call 107;refine(callsIn_wide.2 (a5m _ _ _)).mono ?_;rintro e w2 ⟨rfl,rfl⟩)
 try rw[hW0]
 clear hW0
 refine a4m (gf:=148) (lb := #[.pointer (some ⟨w.heap.size+1,0,none⟩),.pointer (some ⟨w.heap.size+1+1,0,none⟩)]) rfl (enters_of Tryz.func148 (by kernel_rfl) rfl)
  (a6t w p ss HD.out i (w.heap.size+1) (w.heap.size+1+1) (fun b o=>b=W0.heap.size+1∨(b=w.heap.size∨(W0.heap.size≤b∧∃cur,o = .cells cur 9 (0,0)))) W0 HB0.out B3.out B4.out (fun b o hb=>by have:=HSZ.out;omega) (fun o hb=>by have:=HSZ.out;omega) (fun o hb=>by have:=HSZ.out;omega))
  (fun b o h=>by
   have:=HSZ.out
   rcases h with h|⟨_,cur,rfl⟩
   ·exact Or.inl (by omega)
   ·exact Or.inr b1q) a4t (fun _=>rfl)
  (fun pre W=>∃q n c,NmsI w W0.heap.size ss pre q n c W)
  (fun c pre W=>False)
  (fun s A B ⟨q,n,c,h⟩ hc=>⟨q,n,c,h.calm hwz hc⟩)
  (fun c s A B h hc=>h)
  ⟨none,0,0,B0.out,a2b _ _ _ _,rfl,fun k hk=>by simp[Value.ownBlock] at hk,HB0.out⟩
  (fun pre k a' W=>(∃q n c,NmsI w W0.heap.size ss pre q n c W)∧∃Bx,AtE W Bx (entAt ss (k:Int))∧a'={ tmps := #[.pointer p,.int .i64 i,undef,undef,.slice none 0 0,.pointer (some ⟨w.heap.size,0,none⟩),undef,.pointer (some ⟨Bx,0,none⟩),.pointer p,.int .i64 i,.func (.func 148) #[] #[.pointer (some ⟨w.heap.size+1,0,none⟩),.pointer (some ⟨w.heap.size+1+1,0,none⟩)],.int .i64 (k:Int),aggE (entAt ss (k:Int)),undef,undef,undef,undef,undef,undef,undef,undef,undef],defers:=[] })
  (fun s k a' A B h hc=>by
   obtain⟨⟨q,n,c,h1⟩,Bx,h2,h3⟩:=h
   exact⟨⟨q,n,c,h1.calm hwz hc⟩,Bx,hc.block _ _ h2 (Or.inr rfl),h3⟩)
  ?assign ?body ?done ?stop
 case assign =>
  rintro l pre k W hI hsz _
  generalize entAt ss (k:Int)=x
  obtain⟨u,pa,xn,tg⟩:=x
  have HI:=ι hI
  clear hI
  gi_wp2
  have hb:=a0b (Below.refl W.heap.size W) (.cells #[.bool u,.int .i64 pa,.string xn,.int .i64 tg] 119)
  obtain⟨q,n,c,hI⟩:=HI.out
  exact⟨⟨⟨q,n,c,hI.calm hwz (rng.Calm.of_below hb)⟩,W.heap.size,a4o W ⟨u,pa,xn,tg⟩,rfl⟩,Turn.of_below hb⟩
 case body =>
  rintro l pre k a' W ⟨⟨q,n,c,hI⟩,Bx,hX,rfl⟩ hsz hsp
  have HI:=ι hI
  have hl24:pre.length+1≤24:=by
   have h1:=hsp.length_le
   have h2:=a9i (inDir ss i) 24
   rw[List.length_append] at h1
   simp only[List.length_cons,List.length_nil] at h1
   omega
  have hn24:n+1≤24:=by rw[hI.len];exact hl24
  have b0:=hI.box.cell
  have f0:=hI.box.frozen
  have x2:=hX.cell2
  obtain⟨g,hg⟩:∃g,(entAt ss (k:Int)).name=g:=⟨_,rfl⟩
  have HG:=ι hg
  rw[hg] at x2
  generalize aggE (entAt ss (k:Int))=ax
  have hlow:∀k,(Value.slice q n c).ownBlock=some k→k≠w.heap.size:=fun k hk e=>by have:=hI.low k hk;have:=HSZ.out;omega
  clear hI hsp hg hX
  gi_wp2_with (first|(refine a3j rfl ?_;refine a1k a7n (by decide) rfl (.tmp 15) rfl [.string g] rfl rfl ?_;refine a2a ?_)|(gi_at_builtin;refine a3j rfl ?_;refine a7s a7n rfl (.tmp 13) (.tmp 16) rfl _ n _ rfl (HI.out.own.alloc _) _ 1 [.string g] rfl (a1r _ _ _ _ rfl) (fun u hu=>by rw[List.mem_singleton.1 hu];rfl) (by omega) ?_;intro pa ca wa hoa hta hla;have hB8:=a7d (HI.out.box.alloc (.cells [Value.string g].toArray 9)) hta (fun e=>hlow _ e rfl);have c8a:=hB8.cell;have f8a:=hB8.frozen;have HOA:=ι hoa;have HTA:=ι hta;have HLA:=ι hla;have HB8:=ι hB8;clear hoa hta hla hB8;refine a2a ?_))
  have hWs:=HI.out.below.size
  have hz:=HSZ.out
  have ht:dsk.Touch (fun k=>(Value.slice q n c).ownBlock=some k∨k=w.heap.size) W (wa.setCell ⟨w.heap.size,0,none⟩ (.slice pa (n+1) ca)) :=
   dsk.Touch.setCell (S:=fun k=>(Value.slice q n c).ownBlock=some k∨k=w.heap.size) (((dsk.Touch.alloc (dsk.Touch.refl _ W) _).trans HTA.out).mono (fun i hi=>Or.inl hi)) ⟨w.heap.size,0,none⟩ (Or.inr rfl) _
  have hlow2:∀k,(Value.slice pa (n+1) ca).ownBlock=some k→W0.heap.size≤k:=fun k hk=>by
   rcases HLA.out k hk with h|h
   ·exact HI.out.low k h
   ·have:=h.1
    rw[World.size_alloc] at this
    omega
  have hnm:strV (named ss (pre++[k]))=strV (named ss pre)++[.string g]:=by
   rw[named,named,List.map_append,strV,strV,List.map_append,List.map_singleton,HG.out];rfl
  refine⟨⟨pa,n+1,ca,HB8.out.set _,?_,by rw[List.length_append,← HI.out.len];rfl,hlow2,HI.out.below.trans (ht.below hWs fun k hk => ?_)⟩,Turn.of_touch' ht fun k o hko hk => ?_⟩
  ·rw[hnm]
   exact dsk.a0i (S:=fun k=>W0.heap.size≤k) HOA.out hlow2 (dsk.Keeps.set (fun k hk=>by omega) _)
  ·rcases hk with hk|rfl
   ·have:=HI.out.low k hk;omega
   ·exact Nat.le_refl _
  ·rcases hk with hk|rfl
   ·obtain⟨cur,hc⟩:=c0x HI.out.own hk
    rw[hko] at hc
    exact Or.inr ⟨HI.out.low k hk,cur,Option.some.inj hc⟩
   ·exact Or.inl rfl
 case done =>
  rintro D ys W hD rfl ⟨q,n,c,hI⟩ hK
  have HI:=ι hI
  have b0:=hI.box.cell
  have hn24:n≤24:=by rw[hI.len];exact a9i _ _
  have HLS:=ι (b4w ss i)
  have hown:=hI.own
  rw[c0e] at hown
  have HZ:Hid (bytesL (named ss (those (inDir ss i) 24))=(named ss (those (inDir ss i) 24)).map fun x=>x.data.toList):=ι rfl
  rw[← HZ.out] at hown
  generalize bytesL (named ss (those (inDir ss i) 24))=zs at *
  have hzl:zs.length=n:=by
   have:=hown.1
   simpa using this
  have HS:=ι (csort q n c 0 zs W (by omega) hown)
  have HNN:=ι (c0h hown)
  have hlow:∀k,(Value.slice q n c).ownBlock=some k→W0.heap.size≤k:=hI.low
  have hnd:∀(V:World) (cs:List Value),V.heap[D]? = some (.deferred (some []))→rows.Own V 0 9 1 (.slice q n c) n cs→¬(Value.slice q n c).ownBlock=some D:=fun V cs hV ho hk=>by
   obtain⟨cur,hc⟩:=c0x ho hk
   rw[hV] at hc;cases hc
  have HND:=ι hnd
  have HOWN:=ι hown
  have HLOW:=ι hlow
  clear hI hown HZ hnd hlow
  gi_wp2_with (first|(refine⟨trivial,?_⟩;gi_at_call 131;refine(callsIn_wide.2 HS.out).mono ?_;rintro e w5 ⟨rfl,ho5,ht5⟩;have HO5:=ι ho5;have HT5:=ι ht5;have hb5:=a7d HI.out.box ht5 (fun e=>by have:=HLOW.out _ e;have:=HSZ.out;omega);have c5:=hb5.cell;clear ho5 ht5 hb5)|(refine⟨trivial,?_⟩;gi_at_call 132;refine(callsIn_wide.2 (ccompact q n c 0 _ w5 (by omega) HO5.out)).mono ?_;rintro e w6 ⟨rfl,ho6,ht6⟩;have HO6:=ι ho6;have HT6:=ι ht6;clear ho6 ht6))
  have hK5:w5.heap[D]? = some (.deferred (some [])):=(HT5.out.block D (Array.getElem?_eq_some_iff.1 hK).1 (HND.out W _ hK HOWN.out)).trans hK
  have hK6:w6.heap[D]? = some (.deferred (some [])):=(HT6.out.block D (Array.getElem?_eq_some_iff.1 hK5).1 (HND.out w5 _ hK5 HO5.out)).trans hK5
  refine⟨by simp,.inl ⟨_,_,rfl,run_takeDeferred hK6,?_⟩⟩
  obtain⟨us,ho⟩:=HO6.out
  have ho2:=b2b ho (rng.Calm.putObj (B:=0) (.deferred none) (Nat.zero_le _) hK6 rfl)
  have hlen:(risen zs).length≤n:=by rw[← hzl];exact b6y zs
  have hrd:=b9x ho2 hlen HNN.out
  rw[List.map_append,List.take_left' (by rw[List.length_map];rfl),show Lib.compact (zs.mergeSort fun x y=>decide (x≤y))=risen zs from rfl,← b9g] at hrd
  have hb:=HI.out.below.trans ((HT5.out.below HI.out.below.size fun k hk=>by have:=HLOW.out k hk;omega).trans (HT6.out.below (Nat.le_trans HI.out.below.size HT5.out.size) fun k hk=>by have:=HLOW.out k hk;omega))
  exact⟨_,results_tmp rfl _ _ _,_,q,_,c,HLS.out,rfl,by rw[strsL,List.length_map],hrd,hb.grown (grownBy_putObj' _ D (.deferred none)) hb.size (fun k e=>by cases e;omega),by
   rcases ho2.2 with⟨hv,_⟩|⟨g,cap,cur,hv,_,hh,_⟩
   ·cases hv;exact Or.inl rfl
   ·cases hv
    exact Or.inr ⟨g,cur,rfl,by have:=HLOW.out g rfl;omega,hh⟩⟩
 case stop =>
  rintro D c pre W hD hp h hK
  exact h.elim
end lk
namespace fs
set_option maxRecDepth 100000
open Go.ChangeShapes Go.WideShapes Go.ChangeAt Go.RowKit
open rows
open sec
open ly
open pa
open lk
open al
def contV(ss:List (List Int))(b:Int):List Int:=if b=0 then zero32 else secAt ss (40+b)
end fs
namespace fs
set_option maxRecDepth 100000
open Go.ChangeShapes Go.WideShapes Go.ChangeAt Go.RowKit
open rows
open sec
open dsk (Wr.c)
open ly
open pa
open lk
open al
theorem rd_pre1{w:World}{sz r c pl:Nat}{p:Option Addr}{cs:List Value}(h:Rd w sz (.slice p r c) r cs)(hs:sz=1)(hl:pl≤r)(h0:0<pl):Rd w sz (.slice p pl c) pl (cs.take pl):=by
 subst hs
 rcases h with⟨_,_,_,h1,_⟩|⟨b,off,cap,h1,h2,h3,h4,h5,h6,h7⟩
 ·omega
 ·cases h1
  refine Or.inr ⟨b,off,c,rfl,h0,by omega,h4,h5,by rw[List.length_take];omega,fun j u hj=>h7 j u ?_⟩
  rw[List.getElem?_take] at hj
  split at hj
  ·exact hj
  ·cases hj
end fs
namespace vw
set_option maxRecDepth 100000
open Go.ChangeShapes Go.WideShapes Go.ChangeAt Go.RowKit
open rows
open sec
open ly
open pa
open lk
open fs (readL byteAt a1x a7f b2v)
theorem ino_fit{ss:List (List Int)}(hs:Secs ss)(z:Int):0≤(inoAt ss z).size∧(inoAt ss z).size≤128∧(∀i:Nat,(i:Int)<(inoAt ss z).size→1≤(inoAt ss z).b.getD (i / 32) 0)∧∀j,j<4→0≤(inoAt ss z).b.getD j 0∧(inoAt ss z).b.getD j 0≤24:=by
 have hr:=a7f (ss:=ss) z
 by_cases h1:(inoAt ss z).kind=1
 ·obtain⟨a,b,c⟩:=b2v hs z h1
  refine⟨a,b,fun i hi=>(c i hi).1,fun j hj => ?_⟩
  rw[a2u h1,Bool.and_eq_true,Bool.and_eq_true] at hr
  have:=b0w hr.2 j hj
  by_cases hn:j<need (inoAt ss z).size.toNat
  ·rw[a4l hn,Bool.and_eq_true,Bool.and_eq_true,decide_eq_true_eq,decide_eq_true_eq] at this
   omega
  ·rw[a7o hn,beq_iff_eq] at this
   omega
 ·have h02:(inoAt ss z).kind=0∨(inoAt ss z).kind=2:=by
   apply Classical.byContradiction
   intro hn
   rw[not_or] at hn
   rw[a3k hn.1 h1 hn.2] at hr
   cases hr
  rw[a2z h02,Bool.and_eq_true,beq_iff_eq,beq_iff_eq] at hr
  rw[hr.1,hr.2]
  refine⟨by omega,by omega,fun i hi=>by omega,fun j hj => ?_⟩
  match j,hj with
  | 0,_=>exact⟨by decide,by decide⟩
  | 1,_=>exact⟨by decide,by decide⟩
  | 2,_=>exact⟨by decide,by decide⟩
  | 3,_=>exact⟨by decide,by decide⟩
def contV(ss:List (List Int))(b:List Int)(k:Nat):List Int:=((List.range k).map fun j=>secAt ss (40+b.getD j 0)).flatten
theorem a6g(ss:List (List Int))(b:List Int)(k:Nat):contV ss b (k+1)=contV ss b k++secAt ss (40+b.getD k 0):=by
 rw[contV,contV,List.range_succ,List.map_append,List.flatten_append];simp
theorem a3y{ss:List (List Int)}(hs:Secs ss)(b:List Int):∀k,(contV ss b k).length=32 * k
 | 0=>rfl
 | k+1=>by rw[a6g,List.length_append,a3y hs b k,(a0t hs _).1];omega
theorem b5v{ss:List (List Int)}(hs:Secs ss)(b:List Int):∀(k i:Nat),i<32 * k→(contV ss b k)[i]? = (secAt ss (40+b.getD (i / 32) 0))[i % 32]?
 | 0,i,h=>by omega
 | k+1,i,h=>by
  rw[a6g]
  by_cases hi:i<32 * k
  ·rw[List.getElem?_append_left (by rw[a3y hs];exact hi),b5v hs b k i hi]
  ·rw[List.getElem?_append_right (by rw[a3y hs];omega),a3y hs,show i / 32=k by omega,show i % 32=i-32 * k by omega]
theorem b7f{ss:List (List Int)}(hs:Secs ss)(x:Ino)(k:Nat)(h0:∀j,j<4→0≤x.b.getD j 0)(h128:x.size≤128)(hk:x.size≤32 * k):(contV ss x.b k).take x.size.toNat=readL ss x:=by
 apply List.ext_getElem?
 intro i
 rw[List.getElem?_take,readL,List.getElem?_map]
 by_cases hi:i<x.size.toNat
 ·rw[if_pos hi,b5v hs x.b k i (by omega),List.getElem?_range hi]
  simp only[Option.map_some,byteAt]
  have hb:=h0 (i / 32) (by omega)
  obtain⟨m,hm⟩:∃m:Nat,x.b.getD (i / 32) 0=(m:Int):=⟨_,(Int.toNat_of_nonneg hb).symm⟩
  rw[hm]
  have hsx:=a0t hs (40+(m:Int))
  have e:ss.getD (40+((m:Nat):Int).toNat) zero32=secAt ss (40+(m:Int)):=by
   by_cases hlt:40+m<ss.length
   ·rw[show (40:Int)+(m:Int)=((40+m:Nat):Int) by omega,c0d hlt,Int.toNat_natCast,List.getD,List.getElem?_eq_getElem hlt];rfl
   ·rw[show (40:Int)+(m:Int)=((40+m:Nat):Int) by omega,b5a (by omega),Int.toNat_natCast,List.getD,List.getElem?_eq_none (by omega)];rfl
  rw[e]
  have hl:i % 32<(secAt ss (40+(m:Int))).length:=by rw[hsx.1];omega
  rw[List.getElem?_eq_getElem hl,List.getD,List.getElem?_eq_getElem hl];rfl
 ·rw[if_neg hi,List.getElem?_eq_none (by simp;omega)];rfl
theorem idx4(b0 b1 b2 b3:Int)(w:World):(Instr.index 48 (.agg #[.int .i64 b0,.int .i64 b1,.int .i64 b2,.int .i64 b3]) (.int .i64 0)).run Tryz.prog w = .ok (.int .i64 b0) w∧(Instr.index 48 (.agg #[.int .i64 b0,.int .i64 b1,.int .i64 b2,.int .i64 b3]) (.int .i64 1)).run Tryz.prog w = .ok (.int .i64 b1) w∧(Instr.index 48 (.agg #[.int .i64 b0,.int .i64 b1,.int .i64 b2,.int .i64 b3]) (.int .i64 2)).run Tryz.prog w = .ok (.int .i64 b2) w∧(Instr.index 48 (.agg #[.int .i64 b0,.int .i64 b1,.int .i64 b2,.int .i64 b3]) (.int .i64 3)).run Tryz.prog w = .ok (.int .i64 b3) w:=by
 refine⟨?_,?_,?_,?_⟩<;>kernel_rfl
theorem a5b{w:World}{g:Nat}{s:List Int}(h:At w g s)(hs:s.length=32):Rd w 1 (.slice (some ⟨g,0,none⟩) 32 32) 32 (u8s s):=by
 have:=c0z (i:=0) (k:=32) hs h (by omega) (by omega)
 rw[List.drop_zero,List.take_of_length_le (by omega)] at this
 exact this
theorem own_cap{w:World}{B:Nat}{e:TypeId}{q:Option Addr}{n c:Nat}{cs:List Value}(h:rows.Own w B e 1 (.slice q n c) n cs):n≤c:=by
 rcases h.2 with⟨_,h0⟩|⟨g,cap,cur,hv,_,_,hle,_⟩
 ·omega
 ·cases hv;exact hle
theorem a6c{w:World}{B:Nat}{q:Option Addr}{n c:Nat}{xs:List Int}(h:rows.Own w B 5 1 (.slice q n c) n (u8s xs))(k:Nat)(hk:k≤n):Rd w 1 (.slice q k c) k (u8s (xs.take k)):=by
 by_cases h0:k=0
 ·subst h0
  refine Or.inl ⟨q,c,rfl,rfl,by simp[u8s],fun hq => ?_⟩
  subst hq
  rcases h.2 with⟨hv,_⟩|⟨g,cap,cur,hv,_⟩
  ·cases hv;rfl
  ·cases hv
 ·have:=fs.rd_pre1 h.rd rfl hk (by omega)
  rw[u8s,← List.map_take] at this
  exact this
set_option maxRecDepth 100000 in
set_option maxHeartbeats 6400000 in
theorem b0g(w:World)(d:Value)(ss:List (List Int))(hd:Dk w d ss)(x:Ino)(hx:∃z,x=inoAt ss z):Calls Tryz.prog 135 #[d,aggI x] w (Rt w (.string (strOfNums (readL ss x)))):=by
 have hs:=hd.secs.1
 obtain⟨f0,f1,f2,f3⟩:0≤x.size∧x.size≤128∧(∀i:Nat,(i:Int)<x.size→1≤x.b.getD (i / 32) 0)∧∀j,j<4→0≤x.b.getD j 0∧x.b.getD j 0≤24:=by
  obtain⟨z,rfl⟩:=hx;exact ino_fit hs z
 have h4:x.b.length=4:=by obtain⟨z,rfl⟩:=hx;exact a2i hs z
 clear hx
 obtain⟨kd,sz,bl⟩:=x
 simp only at f0 f1 f2 f3 h4
 obtain⟨zn,rfl⟩:=Int.eq_ofNat_of_zero_le f0
 have HRD:Hid (∀k:Nat,((zn:Nat):Int)≤32 * ((k:Nat):Int)→(contV ss bl k).take zn=readL ss ⟨kd,zn,bl⟩):=ι fun k hk=>b7f hs ⟨kd,zn,bl⟩ k (fun j hj=>(f3 j hj).1) f1 hk
 have HCS:=ι fun k=>a6g ss bl k
 have HCL:=ι fun k=>a3y hs bl k
 have HF2:=ι f2
 have HF3:=ι f3
 have HD:=ι hd
 have HSS:=ι hs
 obtain⟨R,hR⟩:∃R,readL ss ⟨kd,zn,bl⟩=R:=⟨_,rfl⟩
 rw[hR] at HRD ⊢
 obtain⟨b0,b1,b2,b3,rfl⟩:=b0j h4
 have hz9:(zn:Int)≤128:=f1
 clear hR f0 f1 f2 f3 h4 hs hd
 have A0:=ι (a4n w ⟨kd,zn,[b0,b1,b2,b3]⟩)
 have B0:=ι (a0b (Below.refl w.heap.size w) (.cells (Ino.c ⟨kd,zn,[b0,b1,b2,b3]⟩).toArray 50))
 go_enter Tryz.func135,Tryz.ntmps135
 go_upto_region 1 with fail
 obtain⟨W,hW⟩:∃W,w.alloc (.cells (Ino.c ⟨kd,zn,[b0,b1,b2,b3]⟩).toArray 50)=W:=⟨_,rfl⟩
 rw[hW] at A0 B0
 first|rw[hW]|skip
 have c1:W.cell? ⟨w.heap.size,1,none⟩=some (.int .i64 (zn:Int)):=A0.out.cell1
 have c2:W.cell? ⟨w.heap.size,2,none⟩=some (.int .i64 b0):=A0.out.cellb (i:=0) (by simp)
 have c3:W.cell? ⟨w.heap.size,3,none⟩=some (.int .i64 b1):=A0.out.cellb (i:=1) (by simp)
 have c4:W.cell? ⟨w.heap.size,4,none⟩=some (.int .i64 b2):=A0.out.cellb (i:=2) (by simp)
 have c5:W.cell? ⟨w.heap.size,5,none⟩=some (.int .i64 b3):=A0.out.cellb (i:=3) (by simp)
 have hgW:w.heap.size<W.heap.size:=(Array.getElem?_eq_some_iff.1 A0.out).1
 clear hW
 obtain⟨g,hg⟩:∃g,w.heap.size=g:=⟨_,rfl⟩
 rw[hg] at A0 c1 c2 c3 c4 c5 hgW ⊢
 have HG:=ι hg
 clear hg
 go_upto_region 3 with fail
 go_loopw [5,12] (fun bv iv wr=>∃(j:Nat) (q:Option Addr) (c:Nat),j≤4∧iv = .int .i64 (j:Int)∧bv = .slice q (32 * j) c∧Hid (∀i,i<j→[b0,b1,b2,b3].getD i 0≠0)∧Hid (rows.Own wr W.heap.size 5 1 (.slice q (32 * j) c) (32 * j) (u8s (contV ss [b0,b1,b2,b3] j)))∧Hid (Below W.heap.size W wr)) (fun _ iv _=>4-(intOf iv).toNat)
 case atStart=>exact⟨0,none,0,by omega,rfl,rfl,ι (fun i hi=>by omega),ι (a2b _ _ _ _),ι (Below.refl _ _)⟩
 case round =>
  obtain⟨j,q,c,hj,rfl,rfl,HN,HO,HB⟩:=hrel
  clear c2 c3 c4 c5
  have c1:wr.cell? ⟨g,1,none⟩=some (.int .i64 (zn:Int)):=(A0.out.later HB.out).cell1
  have hcap:=own_cap HO.out
  have hcapi:32 * (j:Int)≤(c:Int):=by omega
  by_cases hlt:j<4
  ·have hlti:(j:Int)<4:=by omega
   have key:∀(jj:Nat) (v:Int),j=jj→[b0,b1,b2,b3].getD jj 0=v→(v=0→((zn:Nat):Int)≤32 * (jj:Int)∧zn≤32 * jj):=by
    rintro jj v rfl hv hv0
    have hzj:zn≤32 * j:=by
     apply Classical.byContradiction
     intro hn
     have:=HF2.out (32 * j) (by omega)
     rw[show 32 * j / 32=j by omega,hv] at this
     omega
    exact⟨by omega,hzj⟩
   have HKEY:=ι key
   clear key
   match j,hlt with
   | 0,hlt =>
    have hv:[b0,b1,b2,b3].getD 0 0=b0:=rfl
    have HC:=ι (HCS.out 0)
    obtain⟨v0,v1⟩:=HF3.out 0 (by omega)
    rw[hv] at HC v0 v1
    have hKZ:=HKEY.out 0 b0 rfl rfl
    obtain⟨i0,i1,i2,i3⟩:=idx4 b0 b1 b2 b3 wr
    rw[show ((0:Nat):Int)=(0:Int) from rfl]
    generalize b0=v at *
    by_cases hv0:v=0
    ·obtain⟨hz1,hz2⟩:=hKZ hv0
     have hcvv:(v == 0)=true:=by simpa using hv0
     have hzc:(zn:Int)≤(c:Int):=by omega
     have HE:=ι (HRD.out 0 (by omega))
     have hcv:=a1f (a6c HO.out zn (by omega))
     rw[HE.out] at hcv
     obtain rfl:zn=0:=by omega
     rw[show ((0:Nat):Int)=0 from rfl] at c1
     clear v0 v1 hv hv0 hKZ HC
     go_wp2_with fail
     go_ret
     exact⟨rfl,(a0a B0.out HB.out)⟩
    ·have hcvv:(v == 0)=false:=by simpa using hv0
     have HRX:=ι fun w' (hb:Below w.heap.size w w')=>dread w' d ss (40+v) (HD.out.later hb) (WalkArith.wf_i64 (by omega))
     have HSX:=ι (a0t HSS.out (40+v))
     have HNV:=ι hv0
     generalize secAt ss (40+v)=sj at *
     generalize (if 0≤(40+v)∧(40+v)<(ss.length:Int) then (0:Int) else 1)=er at *
     have harr:41+v-1=40+v:=by omega
     clear hKZ hv hv0
     have BW:=ι (a0a B0.out HB.out)
     go_wp2_with (first
      | (go_at_call 53;refine(HRX.out _ BW.out).mono ?_;rintro e w7 ⟨rfl,hb7⟩;have HB7:=ι hb7;clear hb7)
      | (refine a0g rfl (.tmp 8) (.tmp 23) rfl rfl w7.heap.size sj zero32 rfl rfl HSX.out.1 (by decide) (a1c w7) ?_;intro w8 hA8 hB8 _;have A8:=ι hA8;have B8:=ι (a0a HB7.out ((a0b (Below.refl _ w7) _).trans hB8));clear hA8 hB8)
      | (at_builtin;refine a5s a1x rfl (.tmp 25) (.tmp 26) rfl W.heap.size _ (32 * 0) _ rfl (a0x HO.out B8.out) _ 32 (u8s sj) rfl (a5b A8.out HSX.out.1) (by simp[u8s,Value.oneCell']) (by omega) (by have:=(a0a HB.out B8.out).size;exact this) ?_;intro pa ca wa ho hb;have HO2:=ι ho;have HBa:=ι ((a0a HB.out B8.out).trans hb);clear ho hb))
     exact⟨⟨1,pa,ca,by omega,rfl,rfl,ι (fun i hi=>by
      by_cases e:i=0
      ·subst e;exact HNV.out
      ·exact HN.out i (by omega)),ι (by rw[HC.out,u8s,List.map_append];exact HO2.out),HBa⟩,by simp[intOf]⟩
   | 1,hlt =>
    have hv:[b0,b1,b2,b3].getD 1 0=b1:=rfl
    have HC:=ι (HCS.out 1)
    obtain⟨v0,v1⟩:=HF3.out 1 (by omega)
    rw[hv] at HC v0 v1
    have hKZ:=HKEY.out 1 b1 rfl rfl
    obtain⟨i0,i1,i2,i3⟩:=idx4 b0 b1 b2 b3 wr
    rw[show ((1:Nat):Int)=(1:Int) from rfl]
    generalize b1=v at *
    by_cases hv0:v=0
    ·obtain⟨hz1,hz2⟩:=hKZ hv0
     have hcvv:(v == 0)=true:=by simpa using hv0
     have hzc:(zn:Int)≤(c:Int):=by omega
     have HE:=ι (HRD.out 1 (by omega))
     have hcv:=a1f (a6c HO.out zn (by omega))
     rw[HE.out] at hcv
     clear v0 v1 hv hv0 hKZ HC
     go_wp2_with fail
     go_ret
     exact⟨rfl,(a0a B0.out HB.out)⟩
    ·have hcvv:(v == 0)=false:=by simpa using hv0
     have HRX:=ι fun w' (hb:Below w.heap.size w w')=>dread w' d ss (40+v) (HD.out.later hb) (WalkArith.wf_i64 (by omega))
     have HSX:=ι (a0t HSS.out (40+v))
     have HNV:=ι hv0
     generalize secAt ss (40+v)=sj at *
     generalize (if 0≤(40+v)∧(40+v)<(ss.length:Int) then (0:Int) else 1)=er at *
     have harr:41+v-1=40+v:=by omega
     clear hKZ hv hv0
     have BW:=ι (a0a B0.out HB.out)
     go_wp2_with (first
      | (go_at_call 53;refine(HRX.out _ BW.out).mono ?_;rintro e w7 ⟨rfl,hb7⟩;have HB7:=ι hb7;clear hb7)
      | (refine a0g rfl (.tmp 8) (.tmp 23) rfl rfl w7.heap.size sj zero32 rfl rfl HSX.out.1 (by decide) (a1c w7) ?_;intro w8 hA8 hB8 _;have A8:=ι hA8;have B8:=ι (a0a HB7.out ((a0b (Below.refl _ w7) _).trans hB8));clear hA8 hB8)
      | (at_builtin;refine a5s a1x rfl (.tmp 25) (.tmp 26) rfl W.heap.size _ (32 * 1) _ rfl (a0x HO.out B8.out) _ 32 (u8s sj) rfl (a5b A8.out HSX.out.1) (by simp[u8s,Value.oneCell']) (by omega) (by have:=(a0a HB.out B8.out).size;exact this) ?_;intro pa ca wa ho hb;have HO2:=ι ho;have HBa:=ι ((a0a HB.out B8.out).trans hb);clear ho hb))
     exact⟨⟨2,pa,ca,by omega,rfl,rfl,ι (fun i hi=>by
      by_cases e:i=1
      ·subst e;exact HNV.out
      ·exact HN.out i (by omega)),ι (by rw[HC.out,u8s,List.map_append];exact HO2.out),HBa⟩,by simp[intOf]⟩
   | 2,hlt =>
    have hv:[b0,b1,b2,b3].getD 2 0=b2:=rfl
    have HC:=ι (HCS.out 2)
    obtain⟨v0,v1⟩:=HF3.out 2 (by omega)
    rw[hv] at HC v0 v1
    have hKZ:=HKEY.out 2 b2 rfl rfl
    obtain⟨i0,i1,i2,i3⟩:=idx4 b0 b1 b2 b3 wr
    rw[show ((2:Nat):Int)=(2:Int) from rfl]
    generalize b2=v at *
    by_cases hv0:v=0
    ·obtain⟨hz1,hz2⟩:=hKZ hv0
     have hcvv:(v == 0)=true:=by simpa using hv0
     have hzc:(zn:Int)≤(c:Int):=by omega
     have HE:=ι (HRD.out 2 (by omega))
     have hcv:=a1f (a6c HO.out zn (by omega))
     rw[HE.out] at hcv
     clear v0 v1 hv hv0 hKZ HC
     go_wp2_with fail
     go_ret
     exact⟨rfl,(a0a B0.out HB.out)⟩
    ·have hcvv:(v == 0)=false:=by simpa using hv0
     have HRX:=ι fun w' (hb:Below w.heap.size w w')=>dread w' d ss (40+v) (HD.out.later hb) (WalkArith.wf_i64 (by omega))
     have HSX:=ι (a0t HSS.out (40+v))
     have HNV:=ι hv0
     generalize secAt ss (40+v)=sj at *
     generalize (if 0≤(40+v)∧(40+v)<(ss.length:Int) then (0:Int) else 1)=er at *
     have harr:41+v-1=40+v:=by omega
     clear hKZ hv hv0
     have BW:=ι (a0a B0.out HB.out)
     go_wp2_with (first
      | (go_at_call 53;refine(HRX.out _ BW.out).mono ?_;rintro e w7 ⟨rfl,hb7⟩;have HB7:=ι hb7;clear hb7)
      | (refine a0g rfl (.tmp 8) (.tmp 23) rfl rfl w7.heap.size sj zero32 rfl rfl HSX.out.1 (by decide) (a1c w7) ?_;intro w8 hA8 hB8 _;have A8:=ι hA8;have B8:=ι (a0a HB7.out ((a0b (Below.refl _ w7) _).trans hB8));clear hA8 hB8)
      | (at_builtin;refine a5s a1x rfl (.tmp 25) (.tmp 26) rfl W.heap.size _ (32 * 2) _ rfl (a0x HO.out B8.out) _ 32 (u8s sj) rfl (a5b A8.out HSX.out.1) (by simp[u8s,Value.oneCell']) (by omega) (by have:=(a0a HB.out B8.out).size;exact this) ?_;intro pa ca wa ho hb;have HO2:=ι ho;have HBa:=ι ((a0a HB.out B8.out).trans hb);clear ho hb))
     exact⟨⟨3,pa,ca,by omega,rfl,rfl,ι (fun i hi=>by
      by_cases e:i=2
      ·subst e;exact HNV.out
      ·exact HN.out i (by omega)),ι (by rw[HC.out,u8s,List.map_append];exact HO2.out),HBa⟩,by simp[intOf]⟩
   | 3,hlt =>
    have hv:[b0,b1,b2,b3].getD 3 0=b3:=rfl
    have HC:=ι (HCS.out 3)
    obtain⟨v0,v1⟩:=HF3.out 3 (by omega)
    rw[hv] at HC v0 v1
    have hKZ:=HKEY.out 3 b3 rfl rfl
    obtain⟨i0,i1,i2,i3⟩:=idx4 b0 b1 b2 b3 wr
    rw[show ((3:Nat):Int)=(3:Int) from rfl]
    generalize b3=v at *
    by_cases hv0:v=0
    ·obtain⟨hz1,hz2⟩:=hKZ hv0
     have hcvv:(v == 0)=true:=by simpa using hv0
     have hzc:(zn:Int)≤(c:Int):=by omega
     have HE:=ι (HRD.out 3 (by omega))
     have hcv:=a1f (a6c HO.out zn (by omega))
     rw[HE.out] at hcv
     clear v0 v1 hv hv0 hKZ HC
     go_wp2_with fail
     go_ret
     exact⟨rfl,(a0a B0.out HB.out)⟩
    ·have hcvv:(v == 0)=false:=by simpa using hv0
     have HRX:=ι fun w' (hb:Below w.heap.size w w')=>dread w' d ss (40+v) (HD.out.later hb) (WalkArith.wf_i64 (by omega))
     have HSX:=ι (a0t HSS.out (40+v))
     have HNV:=ι hv0
     generalize secAt ss (40+v)=sj at *
     generalize (if 0≤(40+v)∧(40+v)<(ss.length:Int) then (0:Int) else 1)=er at *
     have harr:41+v-1=40+v:=by omega
     clear hKZ hv hv0
     have BW:=ι (a0a B0.out HB.out)
     go_wp2_with (first
      | (go_at_call 53;refine(HRX.out _ BW.out).mono ?_;rintro e w7 ⟨rfl,hb7⟩;have HB7:=ι hb7;clear hb7)
      | (refine a0g rfl (.tmp 8) (.tmp 23) rfl rfl w7.heap.size sj zero32 rfl rfl HSX.out.1 (by decide) (a1c w7) ?_;intro w8 hA8 hB8 _;have A8:=ι hA8;have B8:=ι (a0a HB7.out ((a0b (Below.refl _ w7) _).trans hB8));clear hA8 hB8)
      | (at_builtin;refine a5s a1x rfl (.tmp 25) (.tmp 26) rfl W.heap.size _ (32 * 3) _ rfl (a0x HO.out B8.out) _ 32 (u8s sj) rfl (a5b A8.out HSX.out.1) (by simp[u8s,Value.oneCell']) (by omega) (by have:=(a0a HB.out B8.out).size;exact this) ?_;intro pa ca wa ho hb;have HO2:=ι ho;have HBa:=ι ((a0a HB.out B8.out).trans hb);clear ho hb))
     exact⟨⟨4,pa,ca,by omega,rfl,rfl,ι (fun i hi=>by
      by_cases e:i=3
      ·subst e;exact HNV.out
      ·exact HN.out i (by omega)),ι (by rw[HC.out,u8s,List.map_append];exact HO2.out),HBa⟩,by simp[intOf]⟩
   | (n+4),hlt=>omega
  ·obtain rfl:j=4:=by omega
   have hzji:(zn:Int)≤128:=by omega
   have hzc:(zn:Int)≤(c:Int):=by omega
   have HE:=ι (HRD.out 4 (by omega))
   have hcv:=a1f (a6c HO.out zn (by omega))
   rw[HE.out] at hcv
   go_wp2_with fail
   go_ret
   exact⟨rfl,(a0a B0.out HB.out)⟩
end vw
namespace vw
set_option maxRecDepth 100000
open Go.ChangeShapes Go.WideShapes Go.ChangeAt Go.RowKit
open rows
open sec
open ly
open pa
open lk
open fs (readL Nd aggN AtN a1a nd0)
open dsk (a0o wf64)
theorem a8i{w:World}{ops:Array Oper}{o:Oper}{a:Act}{K:Act→World→Prop}{Q:Exit→Act→World→Prop}{F:Prop}(hw:Region.wanted o (yielded ops a.tmps)=true)(p y:Operand)(ho:o.op = .store 35 p y)
  (g:Nat) (hp:a.eval p = .pointer (some ⟨g,0,none⟩)) (x:Nd) (hy:a.eval y=aggN x) (old:Nd) (hg:AtN w g old)
  (h:∀w',AtN w' g x→Below g w w'→(∀k,k≠g→w'.heap[k]? = w.heap[k]?)→K (a.put o.dst undef) w'):if Region.wanted o (yielded ops a.tmps)=true then Oper.wp Tryz.prog o a w K Q else F:=by
 rw[if_pos hw]
 exact wp_store_row 35 p y ho g #[.string x.path,.bool x.dir,.string x.data] hp hy 35 _ hg (by rw[fs.a1g];rfl) rfl (by simp[Value.oneCell'])
  (h _ (setRow_heap w g _ _ _ _ hg) ((Below.refl g w).trans ⟨rfl,rfl,rfl,by simp[World.setRow],fun k hk=>setRow_other w g k _ (by omega)⟩) (fun k hk=>setRow_other w g k _ hk))
theorem b6j{fn:Func}{p:Tmp}{R:Ending→World→Prop}{a:Act}{w:World}(h:fn.results = #[.cell p 35])(g:Nat)(x:Nd)(hp:a.tmps.getD p undef = .pointer (some ⟨g,0,none⟩))(hg:AtN w g x)
  (hd:a.defers=[]) (hR:R (.returned (aggN x)) w):bodyPost Tryz.prog fn R .ret a w :=
 bodyPost_ret (results_cell_row h a.tmps w g _ _ _ _ hp hg Tryz.underlying35 rfl (by rw[fs.a1g];rfl)) hd hR
set_option maxRecDepth 100000 in
set_option maxHeartbeats 6400000 in
theorem b7m(w:World)(d:Value)(ss:List (List Int))(hd:Dk w d ss)(m:Int)(hm:wf64 m)(p:Option Addr)(n c:Nat)(ns:List (List Int))(hr:Rd w 1 (.slice p n c) n (strC ns))(hn:n≤1000)(hx:∀x∈ns,x.length≤100000):Calls Tryz.prog 81 #[d,.int .i64 m,.slice p n c] w (Rt w (aggN (nodeV ss m ns))):=by
 have HI:=ι fun w' (hb:Below w.heap.size w w')=>a5g w' d ss m (hd.later hb) hm
 have HC:=ι fun w' (hb:Below w.heap.size w w')=>b0g w' d ss (hd.later hb) (inoAt ss m) ⟨m,rfl⟩
 have HJ:=ι fun w' (hb:Below w.heap.size w w')=>b7j p n c ns w' (hr.later hb) hn hx
 have H4:=ι (a2i hd.secs.1 m)
 have hnv:nodeV ss m ns=⟨strOfNums (joinP ns),decide ((inoAt ss m).kind=2),strOfNums (readL ss (inoAt ss m))⟩:=rfl
 rw[hnv]
 generalize strOfNums (joinP ns)=P at *
 generalize strOfNums (readL ss (inoAt ss m))=D at *
 generalize inoAt ss m=x at *
 clear hnv hr hx hd
 have A0:Hid (AtN (w.alloc (.cells #[.string { data := #[] },.bool false,.string { data := #[] }] 35)) w.heap.size nd0):=ι (a1a w nd0)
 have B0:=ι (a0b (Below.refl w.heap.size w) (.cells #[.string { data := #[] },.bool false,.string { data := #[] }] 35))
 go_enter Tryz.func81,Tryz.ntmps81
 go_upto_region 1 with fail
 obtain⟨W,hW⟩:∃W,w.alloc (.cells #[.string { data := #[] },.bool false,.string { data := #[] }] 35)=W:=⟨_,rfl⟩
 rw[hW] at A0 B0 ⊢
 clear hW
 have hgn:w.heap.size<W.heap.size:=A0.out.lt
 obtain⟨gn,hgne⟩:∃g,w.heap.size=g:=⟨_,rfl⟩
 rw[hgne] at A0 hgn ⊢
 have HGN:=ι hgne
 clear hgne
 go_upto_region 2 with(first
  | (go_at_call 24;refine(HI.out _ B0.out).mono ?_;rintro e w2 ⟨rfl,hb⟩;have B2:=ι hb;clear hb)
  | (refine a1i rfl (.tmp 7) (.tmp 10) rfl rfl w2.heap.size x ino0 rfl rfl H4.out rfl (b1l w2) ?_;intro w3 hA hB _;have B3:=ι (a0a B2.out ((a0b (Below.refl _ w2) _).trans hB));have A3:=ι hA;clear hA hB))
 have hng:w2.heap.size≠gn:=by have:=B2.out.size;omega
 have HA3:Hid (AtI w3.drew w2.heap.size x∧Below w.heap.size w w3.drew):=ι ⟨A3.out,(B0.out.trans (B3.out.mono (by have:=HGN.out;omega))).drew⟩
 have HN3:Hid (AtN w3.drew gn nd0):=ι (A0.out.later B3.out.drew)
 obtain⟨gx,hgx⟩:∃g,w2.heap.size=g:=⟨_,rfl⟩
 rw[hgx] at HA3 hng ⊢
 obtain⟨KB,hkb⟩:∃b,(x.kind == 2)=b:=⟨_,rfl⟩
 have hkd:decide (x.kind=2)=KB:=by rw[← hkb];rfl
 have HKD:=ι hkd
 clear hgx hkd B3 A3 A0 B0 B2 HI
 refine wp_region_held_drew (S:=fun v=>AtI v gx x∧Below w.heap.size w v) (by kernel_rfl) HA3.out (fun hH0 => ?_)
 have h0:AtI w3.drew gx x∧Below w.heap.size w w3.drew:=HA3.out
 have o0:AtN w3.drew gn nd0:=HN3.out
 refine tk 0 rfl ?_
 refine tk 2 rfl ?_
 refine tkv 3 rfl (a0o (by rfl) 3 _ Tryz.underlying3 rfl _ rfl gx 0 rfl _ (fun w' hw=>hw.1.cell0)) ?_
 refine tk 4 rfl ?_
 refine tk 5 rfl ?_
 refine tkv 6 rfl (ld_ino (by rfl) _ rfl gx rfl x H4.out (fun w' hw=>hw.1)) ?_
 refine rd 1 rfl (fun K hK => ?_)
 go_simp
 refine(HJ.out _ h0.2).mono ?_
 rintro e v1 ⟨rfl,hb⟩
 have h1:AtI v1 gx x∧Below w.heap.size w v1:=⟨h0.1.later hb,a0a h0.2 hb⟩
 have o1:AtN v1 gn nd0:=o0.later hb
 clear hb
 dsimp only
 refine hK.out _ _ h1 (fun hHeld => ?_)
 clear hK K
 try simp only[Act.put,List.setIfInBounds_toArray,List.set_cons_zero,List.set_cons_succ]
 refine rd 7 rfl (fun K hK => ?_)
 go_simp
 refine(HC.out _ h1.2).mono ?_
 rintro e v2 ⟨rfl,hb⟩
 have h2:AtI v2 gx x∧Below w.heap.size w v2:=⟨h1.1.later hb,a0a h1.2 hb⟩
 have o2:AtN v2 gn nd0:=o1.later hb
 clear hb
 dsimp only
 refine hK.out _ _ h2 (fun hHeld => ?_)
 clear hK K
 try simp only[Act.put,List.setIfInBounds_toArray,List.set_cons_zero,List.set_cons_succ]
 refine tk 8 rfl ?_
 refine rd 9 rfl (fun K hK => ?_)
 refine a8i (by rfl) (.tmp 6) (.tmp 19) rfl gn rfl ⟨P,KB,D⟩ rfl nd0 o2 ?_
 intro v3 hA hB hk
 have h3:AtI v3 gx x∧Below w.heap.size w v3:=⟨(hk gx hng).trans h2.1,h2.2.trans (by rw[HGN.out];exact hB)⟩
 have AF:=ι hA
 have BF:=ι h3.2
 clear hA hB hk
 refine hK.out _ _ h3 (fun hHeld => ?_)
 clear hK K
 try simp only[Act.put,List.setIfInBounds_toArray,List.set_cons_zero,List.set_cons_succ]
 refine wpAnyH_done (by kernel_rfl) ?_ _
 go_wp2_with fail
 refine b6j rfl gn ⟨P,KB,D⟩ rfl AF.out rfl ?_
 exact⟨by rw[HKD.out],BF.out⟩
end vw
namespace vw
set_option maxRecDepth 100000
open Go.ChangeShapes Go.WideShapes Go.ChangeAt Go.RowKit
open rows
open sec
open ly
open pa
set_option maxRecDepth 100000 in
set_option maxHeartbeats 3200000 in
theorem b9a(n:Nat)(h1:1≤n)(h4:n≤4)(w:World):Calls Tryz.prog 133 #[.slice none 0 0,.int .i64 (n:Int)] w fun e w'=>∃c,e = .returned (.slice (some ⟨w.heap.size,0,none⟩) 0 c)∧rows.Own w' w.heap.size 9 1 (.slice (some ⟨w.heap.size,0,none⟩) 0 c) 0 []∧Below w.heap.size w w':=by
 have g1:decide ((n:Int)<0)=false:=by simp
 have g1i:(1:Int)≤n:=by omega
 have g4i:(n:Int)≤4:=by omega
 have hby:(Tryz.t9).bytes=16:=by kernel_rfl
 have hnx:Builtin.nextslicecap n 0=n:=by
  rcases(show n=1∨n=2∨n=3∨n=4 by omega) with rfl|rfl|rfl|rfl<;>rfl
 obtain⟨c,hc⟩:∃c,(Question.appendCap n 0 9).cut (w.tape w.drawn (Question.appendCap n 0 9))=c:=⟨_,rfl⟩
 have hcb:n≤c∧c≤maxLen:=by
  rw[← hc]
  show n≤n+_ % (2 ^ 63-n)∧n+_ % (2 ^ 63-n)≤maxLen
  have hm:=Nat.mod_lt (w.tape w.drawn (Question.appendCap n 0 9)) (show 2 ^ 63-n > 0 by omega)
  unfold maxLen
  omega
 have HCB:=ι hcb
 clear hcb
 go_enter Tryz.func133,Tryz.ntmps133
 go_wp2_with fail
 go_ret
 have hz:∀(v:Value) (k:Nat),(Builtin.zeroCells #[v] k).size=k:=fun v k=>by simp[Builtin.zeroCells]
 refine⟨c,rfl,⟨rfl,Or.inr ⟨w.heap.size,c,_,rfl,Nat.le_refl _,heap_alloc_new _ _,Nat.zero_le _,HCB.out.2,?_,rfl⟩⟩,(a0b (Below.refl _ _) _).drew⟩
 rw[Array.size_append,hz,hz]
 have:=HCB.out.1
 omega
theorem b3d:Elem 113 9 1 16 (.string ByteArray.empty):=b6m
set_option maxRecDepth 100000 in
set_option maxHeartbeats 6400000 in
theorem b4m(w:World)(b o cc:Nat)(hcc:2≤cc)(pa:Option Addr)(na ca:Nat)(xs:List Value)(p1:Option Addr)(c1:Nat)(y:Value)(hb:b<w.heap.size)(h0:w.cell? ⟨b,o,none⟩=some (.slice pa na ca))(h1:w.cell? ⟨b,o+1,none⟩=some (.slice p1 1 c1))(hx:Rd w 1 (.slice pa na ca) na xs)(hy:Rd w 1 (.slice p1 1 c1) 1 [y])(hn:na≤3)(hxo:∀u∈xs,u.oneCell'=true)(hyo:y.oneCell'=true) :
  Calls Tryz.prog 80 #[.slice (some ⟨b,o,none⟩) 2 cc] w fun e w'=>∃q c,e = .returned (.slice q (na+1) c)∧rows.Own w' w.heap.size 9 1 (.slice q (na+1) c) (na+1) (xs++[y])∧Below w.heap.size w w':=by
 have hg:=b9a (na+1) (by omega) (by omega)
 rw[show (((na+1:Nat)):Int)=(na:Int)+1 by omega] at hg
 have HG:=ι hg
 have HX:=ι hx
 have HY:=ι hy
 have HXO:=ι hxo
 have HYO:=ι (show ∀u∈[y],u.oneCell'=true from fun u hu=>by rw[List.mem_singleton.1 hu];exact hyo)
 have hni:(na:Int)≤3:=by omega
 have HLX:Hid (∀w',Below w.heap.size w w'→w'.cell? ⟨b,o,none⟩=some (.slice pa na ca)∧w'.cell? ⟨b,o+1,none⟩=some (.slice p1 1 c1)):=ι fun w' hw=>⟨(hw.cell (p:=⟨b,o,none⟩) hb).trans h0,(hw.cell (p:=⟨b,o+1,none⟩) hb).trans h1⟩
 clear hx hy hxo hyo hg
 go_enter Tryz.func80,Tryz.ntmps80
 go_upto_region 3 with fail
 go_loopw [3,11] (fun sv iv wr=>∃i:Nat,i≤2∧iv = .int .i64 (i:Int)∧sv = .int .i64 (((if i=0 then 0 else if i=1 then na else na+1):Nat):Int)∧wr=w) (fun _ iv _=>2-(intOf iv).toNat)
 case atStart=>exact⟨0,by omega,rfl,rfl,rfl⟩
 case round =>
  obtain⟨i,hi,rfl,rfl,rfl⟩:=hrel
  match i,hi with
  | 0,hi =>
   rw[show ((0:Nat):Int)=0 from rfl]
   go_wp2_with fail
   exact⟨⟨1,by omega,rfl,rfl,trivial⟩,by simp[intOf]⟩
  | 1,hi =>
   rw[show ((1:Nat):Int)=1 from rfl]
   go_wp2_with fail
   exact⟨⟨2,by omega,rfl,by rw[if_neg (by omega),if_neg (by omega)];rfl,trivial⟩,by simp[intOf]⟩
  | 2,hi =>
   rw[show ((2:Nat):Int)=2 from rfl,show (((if (2:Nat)=0 then 0 else if (2:Nat)=1 then na else na+1:Nat)):Int)=(na:Int)+1 from rfl]
   obtain⟨W0,hW0⟩:∃v:World,v=wr:=⟨_,rfl⟩
   subst hW0
   go_upto_region 11 with(go_at_call 133;refine(HG.out _).mono ?_;rintro e w2 ⟨c,rfl,ho,hb2⟩;have HO2:=ι ho;have HB2:=ι hb2;clear ho hb2)
   go_loopw [6,27] (fun bv iv w3=>∃(i n:Nat) (q:Option Addr) (c:Nat) (cs:List Value),i≤2∧iv = .int .i64 (i:Int)∧bv = .slice q n c∧Hid ((i=0→n=0∧cs=[])∧(i=1→n=na∧cs=xs)∧(i=2→n=na+1∧cs=xs++[y]))∧Hid (rows.Own w3 W0.heap.size 9 1 (.slice q n c) n cs)∧Hid (Below W0.heap.size W0 w3)) (fun _ iv _=>2-(intOf iv).toNat)
   case atStart=>exact⟨0,0,_,_,[],by omega,rfl,rfl,ι ⟨fun _=>⟨rfl,rfl⟩,fun h=>by omega,fun h=>by omega⟩,HO2.out |> ι,HB2⟩
   case round =>
    clear HO2 HB2
    obtain⟨i,n,q,c,cs,hi,rfl,rfl,HI,HO,HB⟩:=hrel
    obtain⟨d0,d1⟩:=HLX.out _ HB.out
    match i,hi with
    | 0,hi =>
     obtain⟨rfl,rfl⟩:=HI.out.1 rfl
     rw[show ((0:Nat):Int)=0 from rfl]
     go_wp2_with (at_builtin;refine a5s b3d rfl (.tmp 31) (.tmp 32) rfl W0.heap.size _ 0 [] rfl HO.out _ na xs rfl (HX.out.later HB.out) HXO.out (by omega) HB.out.size ?_;intro pb cb wb ho hT;have HO3:=ι ho;have HB3:=ι (HB.out.trans hT);clear ho hT)
     exact⟨⟨1,_,_,_,xs,by omega,rfl,rfl,ι ⟨fun h=>by omega,fun _=>⟨by omega,rfl⟩,fun h=>by omega⟩,by simpa using HO3,HB3⟩,by simp[intOf]⟩
    | 1,hi =>
     obtain⟨rfl,rfl⟩:=HI.out.2.1 rfl
     rw[show ((1:Nat):Int)=1 from rfl]
     go_wp2_with (at_builtin;refine a5s b3d rfl (.tmp 31) (.tmp 32) rfl W0.heap.size _ n cs rfl HO.out _ 1 [y] rfl (HY.out.later HB.out) HYO.out (by omega) HB.out.size ?_;intro pb cb wb ho hT;have HO3:=ι ho;have HB3:=ι (HB.out.trans hT);clear ho hT)
     exact⟨⟨2,_,_,_,cs++[y],by omega,rfl,rfl,ι ⟨fun h=>by omega,fun h=>by omega,fun _=>⟨rfl,rfl⟩⟩,HO3,HB3⟩,by simp[intOf]⟩
    | 2,hi =>
     obtain⟨rfl,rfl⟩:=HI.out.2.2 rfl
     rw[show ((2:Nat):Int)=2 from rfl]
     go_wp2_with fail
     go_ret
     exact⟨_,_,rfl,HO.out,HB.out⟩
end vw
namespace vw
set_option maxRecDepth 100000
open Go.ChangeShapes Go.WideShapes Go.ChangeAt Go.RowKit
open rows
open sec
open ly
open pa
open lk
open rng
open fs (Nd aggN)
attribute [local go_sem] Oper.semAt_some
def softN(o:Obj):Prop:=∃cs fr,o = .cells cs 35 fr
theorem a0l(o:Obj)(h:softN o):o.isCells=true:=by
 obtain⟨cs,fr,rfl⟩:=h;rfl
theorem a2d{cs:Array Value}{t:TypeId}{fr:Nat×Nat}(h:t≠35):¬softN (.cells cs t fr):=fun⟨cs',fr',e⟩=>by
 injection e with _ h2
 exact h h2
structure KeepN (w0:World) (lo:Nat) (V1 V:World):Prop where
 below:Below w0.heap.size w0 V
 size:V1.heap.size≤V.heap.size
 cell:∀(k:Nat) (o:Obj),lo≤k→V1.heap[k]? = some o→o.isCells=true→¬softN o→V.heap[k]? = some o
theorem KeepN.refl{w0:World}{lo:Nat}{V:World}(h:Below w0.heap.size w0 V):KeepN w0 lo V V:=⟨h,Nat.le_refl _,fun k o _ h _ _=>h⟩
theorem KeepN.calm{w0:World}{lo B:Nat}{V1 A C:World}(h:KeepN w0 lo V1 A)(hc:rng.Calm B A C)(hB:w0.heap.size≤B):KeepN w0 lo V1 C :=
 ⟨h.below.trans (hc.below hB h.below.size),Nat.le_trans h.size hc.size,fun k o hk hi ho hs=>hc.block k o (h.cell k o hk hi ho hs) (Or.inr ho)⟩
theorem KeepN.later{w0:World}{lo:Nat}{V1 A C:World}(h:KeepN w0 lo V1 A)(hb:Below A.heap.size A C):KeepN w0 lo V1 C :=
 h.calm (rng.Calm.of_below (B:=w0.heap.size) hb) (Nat.le_refl _)
theorem KeepN.turn{w0:World}{lo:Nat}{V1 A C:World}{m:Nat→Obj→Prop}(h:KeepN w0 lo V1 A)(hT:Turn m A C)(h1:∀b o,m b o→w0.heap.size≤b)(h2:∀b o,m b o→b<lo∨softN o∨V1.heap.size≤b):KeepN w0 lo V1 C :=
 ⟨h.below.trans (hT.below h.below.size h1),Nat.le_trans h.size hT.size,fun k o hk hi ho hs=>hT.keep k o (h.cell k o hk hi ho hs) fun hm=>by
  have hl:k<V1.heap.size:=(Array.getElem?_eq_some_iff.1 hi).1
  rcases h2 k o hm with h|h|h
  ·omega
  ·exact hs h
  ·omega⟩
theorem KeepN.boxed{w0:World}{lo:Nat}{V1 V:World}(h:KeepN w0 lo V1 V){b:Nat}{t:TypeId}{v:Value}(hb:Go.Boxed V1 b t v)(hl:lo≤b)(ht:t≠35):Go.Boxed V b t v:=h.cell b _ hl hb rfl (a2d ht)
theorem KeepN.calmS{w0:World}{lo B:Nat}{V1 A C:World}(h:KeepN w0 lo V1 A)(hc:CalmS softN B A C)(hB:w0.heap.size≤B)(hV:V1.heap.size≤B):KeepN w0 lo V1 C :=
 ⟨h.below.trans (hc.below hB h.below.size),Nat.le_trans h.size hc.size,fun k o hk hi ho hs=>hc.block k o (h.cell k o hk hi ho hs) (Or.inl (by have:=(Array.getElem?_eq_some_iff.1 hi).1;omega))⟩
theorem KeepN.own{w0:World}{lo:Nat}{V1 V:World}(h:KeepN w0 lo V1 V){n:Nat}{v:Value}{cs:List Value}(ho:rows.Own V1 lo 9 1 v n cs):rows.Own V lo 9 1 v n cs :=
 ⟨ho.1,ho.2.imp id fun⟨g,cap,cur,h1,h2,h3,r⟩=>⟨g,cap,cur,h1,h2,h.cell g _ h2 h3 rfl (a2d (by decide)),r⟩⟩
theorem a6w(p:Option Addr)(n:Int)(pa:Option Addr)(na ca:Nat)(w:World):Calls Tryz.prog 35 #[.pointer p,.int .i64 n,.slice pa na ca] w fun e w'=>e = .returned (.func (.func 78) #[] #[.pointer (some ⟨w.heap.size,0,none⟩),.pointer (some ⟨w.heap.size+1,0,none⟩),.pointer (some ⟨w.heap.size+2,0,none⟩)])∧w'=((w.alloc (.cells #[.pointer p] 28)).alloc (.cells #[.int .i64 n] 3)).alloc (.cells #[.slice pa na ca] 113):=by
 go_enter Tryz.func35,Tryz.ntmps35
 go_wp2
 go_ret
 exact⟨rfl,rfl⟩
def NodesF(ss:List (List Int))(f:Nat):Prop:=∀(w0:World) (p:Option Addr) (n:Int) (way:List (List Int)) (pa:Option Addr) (na ca:Nat) (lo:Nat) (V1:World) (bd bn ba:Nat) (m:Nat→Obj→Prop) (w:World),
 Dk w0 (.pointer p) ss→0≤n→n≤255→(∀x∈way,isNm x=true)→way.length+f=4→rows.Own V1 lo 9 1 (.slice pa na ca) na (strC way) →
 Go.Boxed V1 bd 28 (.pointer p)→Go.Boxed V1 bn 3 (.int .i64 n)→Go.Boxed V1 ba 113 (.slice pa na ca)→lo≤bd→lo≤bn→lo≤ba→w0.heap.size≤lo →
 KeepN w0 lo V1 w→(∀b o,m b o→w0.heap.size≤b)→(∀b o,m b o→b<lo∨softN o∨V1.heap.size≤b) →
 SeqS Tryz.prog 78 #[.pointer (some ⟨bd,0,none⟩),.pointer (some ⟨bn,0,none⟩),.pointer (some ⟨ba,0,none⟩)] (fun x:Nd => #[aggN x]) softN m (fun ys=>ys=nodesF ss f n way) (fun pre=>pre <+: nodesF ss f n way) w
theorem b6h{w:World}{B:Nat}{v:Value}{n:Nat}{ns:List (List Int)}(h:rows.Own w B 9 1 v n (strC ns)):ns.length=n:=by
 have:=h.1
 rw[a4z] at this
 omega
set_option maxRecDepth 100000 in
set_option maxHeartbeats 4000000 in
theorem b4c{ss:List (List Int)}:NodesF ss 0:=by
 intro w0 p n way pa na ca lo V1 bd bn ba m w hd hn0 hn1 hnm hwl ho hbd hbn hba hlo1 hlo2 hlo3 hlw hk h1 h2
 intro l J Jx W hW hZW hJ hJx hY h0
 have hna:na=4:=by have:=b6h ho;omega
 subst hna
 have hK0:KeepN w0 lo V1 W:=hk.calm (B:=w0.heap.size) ⟨hW.os,hW.tape,hW.output,hW.size,fun k o hi ho=>(hW.block k (Array.getElem?_eq_some_iff.1 hi).1).trans hi⟩ (Nat.le_refl _)
 have hb1:=a0b (Below.refl W.heap.size W) (.cells #[.func (.yield l) #[] #[]] 94)
 obtain⟨W2,hW2⟩:∃W2,W.alloc (.cells #[.func (.yield l) #[] #[]] 94)=W2:=⟨_,rfl⟩
 rw[hW2] at hb1
 have hK2:=hK0.later hb1
 have cd:=(hK2.boxed hbd hlo1 (by decide)).cell
 have cn:=(hK2.boxed hbn hlo2 (by decide)).cell
 have HBA:=ι fun V (h:KeepN w0 lo V1 V)=>(h.boxed hba hlo3 (by decide)).cell
 have HK2:=ι hK2
 have HIN:=ι (a5g W2 (.pointer p) ss n (hd.later hK2.below) (WalkArith.wf_i64 (by omega)))
 have hf:∀v,(Instr.field 50 (aggI (inoAt ss n)) 0).run Tryz.prog v = .ok (.int .i64 (inoAt ss n).kind) v:=fun v=>fieldI0 (inoAt ss n) (a2i hd.secs.1 n) v
 have HJ2:Hid (J [] W2):=ι (hJ _ _ _ h0 (CalmS.of_below hb1))
 have HJ:=ι hJ
 generalize inoAt ss n=xi at *
 clear hK0 hK2 hb1 hbd hbn hba hlo1 hlo2 hlo3 hlw hk h1 h2 hW hZW hJ hJx hY h0 ho hd hnm hwl
 refine(callsIn_wide (n:=10)).1 (callsIn_of_wp_marks Tryz.func78 rfl trivial ?_ rfl)
 simp only[Tryz.ntmps78,List.size_toArray,List.length_cons,List.length_nil,Nat.reduceAdd,Nat.reduceSub,Array.replicate_succ,Array.replicate_zero,List.push_toArray,List.append_toArray,List.nil_append,List.cons_append]
 gi_wp2_with (refine⟨trivial,?_⟩;gi_at_call 24;refine(callsIn_wide.2 HIN.out).mono ?_;rintro e w3 ⟨rfl,hb⟩;have B3:=ι hb;have ca3:=HBA.out w3 (HK2.out.later hb);clear hb)
 all_goals
  refine a0k (B:=W.heap.size) (C:=w3.heap.size) [] w3 ⟨List.nodup_nil,fun D hD=>(nomatch hD)⟩ fun w' hc => ?_
  exact⟨_,results_none rfl _ _ _,⟨_,rfl⟩,.inl ⟨_,rfl,HJ.out _ _ _ (HJ.out _ _ _ HJ2.out (CalmS.of_below B3.out)) (CalmS.of a0l hc)⟩⟩
end vw
namespace vw
set_option maxRecDepth 100000
open Go.ChangeShapes Go.WideShapes Go.ChangeAt Go.RowKit
open rows
open sec
open ly
open pa
open lk
open rng
open fs (Nd aggN AtN)
open dsk (a0c a1r size_alloc)
attribute [local go_sem] Oper.semAt_some
theorem b0s(w:World)(pa:Option Addr)(na ca:Nat)(xs:List Value)(nm:ByteArray)(hx:Rd w 1 (.slice pa na ca) na xs)(hn:na≤3)(hxo:∀u∈xs,u.oneCell'=true) :
  Calls Tryz.prog 80 #[.slice (some ⟨w.heap.size+1,0,none⟩) 2 2] ((w.alloc (.cells #[.string nm] 9)).alloc (.cells #[.slice pa na ca,.slice (some ⟨w.heap.size,0,none⟩) 1 1] 113)) fun e w'=>∃q c,e = .returned (.slice q (na+1) c)∧rows.Own w' w.heap.size 9 1 (.slice q (na+1) c) (na+1) (xs++[.string nm])∧Below w.heap.size w w':=by
 have hb1:=a0b (Below.refl w.heap.size w) (.cells #[.string nm] 9)
 have hb2:=a0b hb1 (.cells #[.slice pa na ca,.slice (some ⟨w.heap.size,0,none⟩) 1 1] 113)
 have e7:((w.alloc (.cells #[.string nm] 9)).alloc (.cells #[.slice pa na ca,.slice (some ⟨w.heap.size,0,none⟩) 1 1] 113)).heap[w.heap.size+1]? = some (.cells #[.slice pa na ca,.slice (some ⟨w.heap.size,0,none⟩) 1 1] 113 (0,0)):=by
  have h:=World.alloc_heap_new (w.alloc (.cells #[.string nm] 9)) (.cells #[.slice pa na ca,.slice (some ⟨w.heap.size,0,none⟩) 1 1] 113)
  rwa [World.size_alloc] at h
 refine(b4m _ (w.heap.size+1) 0 2 (by decide) pa na ca xs (some ⟨w.heap.size,0,none⟩) 1 (.string nm) (by simp[World.size_alloc]) (a0c e7 0 _ rfl) (a0c e7 1 _ rfl) (hx.later hb2) ((a1r w 9 1 [.string nm] rfl).later (a0b (Below.refl _ _) _)) hn hxo rfl).mono ?_
 rintro e w' ⟨q,c,rfl,ho,hb⟩
 have hs:w.heap.size≤((w.alloc (.cells #[.string nm] 9)).alloc (.cells #[.slice pa na ca,.slice (some ⟨w.heap.size,0,none⟩) 1 1] 113)).heap.size:=by simp[World.size_alloc];omega
 exact⟨q,c,rfl,⟨ho.1,ho.2.imp id fun⟨g,cap,cur,h1,h2,r⟩=>⟨g,cap,cur,h1,Nat.le_trans hs h2,r⟩⟩,hb2.trans (hb.mono hs)⟩
def nodesU(ss:List (List Int))(f:Nat)(n:Int)(way:List (List Int))(i:Nat):List Nd:=(((listV ss n).take i).map fun x=>nodeV ss (tgt ss n x) (way++[bys x])::nodesF ss f (tgt ss n x) (way++[bys x])).flatten
theorem b9l{w4 V:World}{lo:Nat}{q:Option Addr}{n c:Nat}{L:List ByteArray}(h:Rd w4 1 (.slice q n c) n (strV L))(hL:n=L.length)(hnew:q=none∨∃g cs,q=some ⟨g,0,none⟩∧lo≤g∧w4.heap[g]? = some (.cells cs 9 (0,0)))
  (hk:∀(k:Nat) (cs:Array Value),lo≤k→w4.heap[k]? = some (.cells cs 9 (0,0))→V.heap[k]? = some (.cells cs 9 (0,0))) {i:Nat} (hi:i<n) (s:ByteArray) (hs:L[i]? = some s):∃g,q=some ⟨g,0,none⟩∧V.cell? ⟨g,i,none⟩=some (.string s)∧V.cell? ⟨g,0+i,none⟩=some (.string s):=by
 rcases h with⟨p,cap,e,h0,_⟩|⟨b,off,cap,e,h1,h2,h3,h4,h5,h6⟩
 ·omega
 ·injection e with e1 e2 e3
  rcases hnew with h|⟨g,cs,hq,hg,hw⟩
  ·rw[h] at e1;cases e1
  ·rw[hq] at e1
   injection e1 with e1
   injection e1 with eb eo
   subst eb;subst eo
   have hr:=h6 i (.string s) (by rw[strV,List.getElem?_map,hs];rfl)
   have hV:=hk _ cs hg hw
   have e2:V.cell? ⟨g,0+i,none⟩=some (.string s):=by
    rw[← hr]
    simp only[World.cell?,hw,hV]
   exact⟨g,hq,by rw[← e2,Nat.zero_add],e2⟩
theorem b1g{ss:List (List Int)}{f:Nat}{n:Int}{way:List (List Int)}{i:Nat}{nm:ByteArray}(h:(listV ss n)[i]? = some nm):nodesU ss f n way (i+1)=nodesU ss f n way i++(nodeV ss (tgt ss n nm) (way++[bys nm])::nodesF ss f (tgt ss n nm) (way++[bys nm])):=by
 rw[nodesU,List.take_add_one,h]
 simp[nodesU]
theorem b3u{ss:List (List Int)}{f:Nat}{n:Int}{way:List (List Int)}{i:Nat}(hk:(inoAt ss n).kind=2)(h:(listV ss n).length≤i):nodesU ss f n way i=nodesF ss (f+1) n way:=by
 rw[nodesU,List.take_of_length_le h,nodesF,if_pos hk]
theorem a7l{ss:List (List Int)}{f:Nat}{n:Int}{way:List (List Int)}(i:Nat)(hk:(inoAt ss n).kind=2):nodesU ss f n way i <+: nodesF ss (f+1) n way:=by
 rw[nodesF,if_pos hk]
 refine⟨(((listV ss n).drop i).map fun x=>nodeV ss (tgt ss n x) (way++[bys x])::nodesF ss f (tgt ss n x) (way++[bys x])).flatten,?_⟩
 rw[nodesU,← List.flatten_append,← List.map_append,List.take_append_drop]
theorem b7o(way:List (List Int))(nm:ByteArray):strC (way++[bys nm])=strC way++[.string nm]:=by
 simp[strC,a1h]
theorem b2j{m:Nat→Obj→Prop}{a b:World}{B n:Nat}{v:Value}{cs:List Value}(h:rows.Own a B 9 1 v n cs)(hT:Turn m a b)(hm:∀k o,B≤k→¬softN o→¬m k o):rows.Own b B 9 1 v n cs :=
 ⟨h.1,h.2.imp id fun⟨g,cap,cur,h1,h2,h3,r⟩=>⟨g,cap,cur,h1,h2,hT.keep g _ h3 (hm g _ h2 (a2d (by decide))),r⟩⟩
structure InN (w0 w4:World) (lo:Nat) (V1:World) (B C l:Nat) (Ds:List Nat) (V:World):Prop where
 box:Go.Boxed V B 94 (.func (.yield l) #[] #[])
 keep:KeepN w0 lo V1 V
 size:C≤V.heap.size
 marks:Marks B C Ds V
 rows:∀(k:Nat) (cs:Array Value),B≤k→w4.heap[k]? = some (.cells cs 9 (0,0))→V.heap[k]? = some (.cells cs 9 (0,0))
theorem InN.later{w0 w4:World}{lo:Nat}{V1:World}{B C l:Nat}{Ds:List Nat}{V V':World}(h:InN w0 w4 lo V1 B C l Ds V)(hb:Below V.heap.size V V'):InN w0 w4 lo V1 B C l Ds V' :=
 ⟨(rng.Calm.of_below (B:=0) hb).boxed h.box,h.keep.later hb,Nat.le_trans h.size hb.size,h.marks.later hb,fun k cs hk hi=>(hb.block k (Array.getElem?_eq_some_iff.1 (h.rows k cs hk hi)).1).trans (h.rows k cs hk hi)⟩
theorem InN.turn{w0 w4:World}{lo:Nat}{V1:World}{B C l:Nat}{Ds:List Nat}{V V':World}{m:Nat→Obj→Prop}(h:InN w0 w4 lo V1 B C l Ds V)(hT:Turn m V V')(hz:∀b o,m b o→b<B∨softN o)(h1:∀b o,m b o→w0.heap.size≤b)(h2:∀b o,m b o→b<lo∨softN o∨V1.heap.size≤b):InN w0 w4 lo V1 B C l Ds V' :=
 ⟨hT.keep _ _ h.box (fun hm=>by
  rcases hz _ _ hm with hh|hh
  ·omega
  ·exact a2d (by decide) hh),h.keep.turn hT h1 h2,Nat.le_trans h.size hT.size,h.marks.turn hT (fun k hk hm=>by
  rcases hz _ _ hm with hh|⟨_,_,hh⟩
  ·omega
  ·cases hh),fun k cs hk hi=>hT.keep k _ (h.rows k cs hk hi) (fun hm=>by
  rcases hz _ _ hm with hh|hh
  ·omega
  ·exact a2d (by decide) hh)⟩
theorem InN.calmS{w0 w4:World}{lo:Nat}{V1:World}{B C C' l:Nat}{Ds:List Nat}{V V':World}(h:InN w0 w4 lo V1 B C l Ds V)(hc:CalmS softN C' V V')(hB:B<C')(hC:C≤C')(h4:w4.heap.size≤C')(h0:w0.heap.size≤C')(hV:V1.heap.size≤C'):InN w0 w4 lo V1 B C l Ds V' :=
 ⟨hc.boxed hB h.box,h.keep.calmS hc h0 hV,Nat.le_trans h.size hc.size,h.marks.calmS hc hC,fun k cs hk hi=>hc.block k _ (h.rows k cs hk hi) (Or.inl (Nat.lt_of_lt_of_le (Array.getElem?_eq_some_iff.1 hi).1 h4))⟩
theorem InN.grow{w0 w4:World}{lo:Nat}{V1:World}{B C C' l:Nat}{Ds:List Nat}{V:World}(h:InN w0 w4 lo V1 B C l Ds V)(h1:C≤C')(h2:C'≤V.heap.size):InN w0 w4 lo V1 B C' l Ds V :=
 ⟨h.box,h.keep,h2,⟨h.marks.nd,fun D hD=>⟨(h.marks.at_ D hD).1,Nat.lt_of_lt_of_le (h.marks.at_ D hD).2.1 h1,(h.marks.at_ D hD).2.2⟩⟩,h.rows⟩
theorem InN.moreM{w0 w4:World}{lo:Nat}{V1:World}{B C l:Nat}{Ds:List Nat}{V:World}(h:InN w0 w4 lo V1 B C l Ds V){D:Nat}(h1:B≤D)(h2:C≤D)(h4:V.heap[D]? = some (.deferred (some []))):InN w0 w4 lo V1 B V.heap.size l (D::Ds) V :=
 ⟨h.box,h.keep,Nat.le_refl _,h.marks.more h1 h2 (Array.getElem?_eq_some_iff.1 h4).1 h4,h.rows⟩
set_option maxRecDepth 100000 in
set_option maxHeartbeats 8000000 in
theorem b3p{ss:List (List Int)}(f:Nat)(IH:NodesF ss f):NodesF ss (f+1):=by
 intro w0 p n way pa na ca lo V1 bd bn ba m w hd hn0 hn1 hnm hwl ho hbd hbn hba hlo1 hlo2 hlo3 hlw hk h1 h2
 intro l J Jx W hW hZW hJ hJx hY h0
 have hna:na=way.length:=(b6h ho).symm
 have hna3:(na:Int)≤3:=by omega
 have hna4:((na:Int) == 4)=false:=by simp;omega
 subst hna
 have hK0:KeepN w0 lo V1 W:=hk.calm (B:=w0.heap.size) ⟨hW.os,hW.tape,hW.output,hW.size,fun k o hi ho=>(hW.block k (Array.getElem?_eq_some_iff.1 hi).1).trans hi⟩ (Nat.le_refl _)
 have HS0:=ι hK0.below.size
 have HV1:=ι hK0.size
 have hb1:=a0b (Below.refl W.heap.size W) (.cells #[.func (.yield l) #[] #[]] 94)
 have hy1:=Go.Boxed.new W 94 (.func (.yield l) #[] #[])
 have hsz:(W.alloc (.cells #[.func (.yield l) #[] #[]] 94)).heap.size=W.heap.size+1:=by simp[World.size_alloc]
 obtain⟨W2,hW2⟩:∃W2,W.alloc (.cells #[.func (.yield l) #[] #[]] 94)=W2:=⟨_,rfl⟩
 rw[hW2] at hb1 hy1 hsz
 have hK2:=hK0.later hb1
 have HBD:=ι fun V (h:KeepN w0 lo V1 V)=>(h.boxed hbd hlo1 (by decide)).cell
 have HBN:=ι fun V (h:KeepN w0 lo V1 V)=>(h.boxed hbn hlo2 (by decide)).cell
 have HBA:=ι fun V (h:KeepN w0 lo V1 V)=>(h.boxed hba hlo3 (by decide)).cell
 have HOW:=ι fun V (h:KeepN w0 lo V1 V)=>h.own ho
 have cd:=HBD.out W2 hK2
 have cn:=HBN.out W2 hK2
 have HK2:=ι hK2
 have HY2:=ι hy1
 have HSZ:=ι hsz
 have HD:=ι hd
 have HNM:=ι hnm
 have HIN:=ι (a5g W2 (.pointer p) ss n (hd.later hK2.below) (WalkArith.wf_i64 (by omega)))
 have HLS:=ι fun v (hb:Below W2.heap.size W2 v)=>b8l v (.pointer p) ss n ((hd.later hK2.below).later hb)
 have hf:∀v,(Instr.field 50 (aggI (inoAt ss n)) 0).run Tryz.prog v = .ok (.int .i64 (inoAt ss n).kind) v:=fun v=>fieldI0 (inoAt ss n) (a2i hd.secs.1 n) v
 have HJ2:Hid (J [] W2):=ι (hJ _ _ _ h0 (CalmS.of_below hb1))
 have HJ:=ι hJ
 have HJX:=ι hJx
 have HY:=ι hY
 have H1:=ι h1
 have H2:=ι h2
 have HZW:=ι hZW
 have HIH:=ι IH
 obtain⟨xi,hxi⟩:∃y,inoAt ss n=y:=⟨_,rfl⟩
 rw[hxi] at HIN hf
 have HXI:=ι hxi
 clear hK0 hK2 hb1 hbd hbn hba hlo1 hlo2 hlo3 hlw hk h1 h2 hW hZW hJ hJx hY h0 ho hd hnm hxi hy1 hsz IH
 refine(callsIn_wide (n:=10)).1 (callsIn_of_wp_marks Tryz.func78 rfl trivial ?_ rfl)
 simp only[Tryz.ntmps78,List.size_toArray,List.length_cons,List.length_nil,Nat.reduceAdd,Nat.reduceSub,Array.replicate_succ,Array.replicate_zero,List.push_toArray,List.append_toArray,List.nil_append,List.cons_append]
 by_cases hkd:xi.kind=2
 ·have hkb:(xi.kind != 2)=false:=by simpa using hkd
  have HKD:Hid ((inoAt ss n).kind=2):=ι (by rw[HXI.out];exact hkd)
  clear hkd
  gi_wp2_with (first
   | (refine⟨trivial,?_⟩;gi_at_call 24;refine(callsIn_wide.2 HIN.out).mono ?_;rintro e w3 ⟨rfl,hb⟩;have B3:=ι hb;have ca3:=HBA.out w3 (HK2.out.later hb);have cd3:=HBD.out w3 (HK2.out.later hb);have cn3:=HBN.out w3 (HK2.out.later hb);clear hb)
   | (refine⟨trivial,?_⟩;gi_at_call 79;refine(callsIn_wide.2 (HLS.out _ B3.out)).mono ?_;rintro e w4 ⟨L,qL,kL,cL,hL,rfl,hkl,hrd,hb,hnew⟩;have B4:=ι (a0a B3.out hb);have HLL:=ι (list_eq hL);have HKL:=ι hkl;have HRD:=ι hrd;have HNW:=ι hnew;have B34:=ι hb;clear hL hkl hrd hb hnew))
  have HKS4:Hid (∀(k:Nat) (cs:Array Value),W.heap.size≤k→w4.heap[k]? = some (.cells cs 9 (0,0))→w4.heap[k]? = some (.cells cs 9 (0,0))):=ι fun _ _ _ h=>h
  have HNA:Hid (∀V:World,(∀(k:Nat) (cs:Array Value),W.heap.size≤k→w4.heap[k]? = some (.cells cs 9 (0,0))→V.heap[k]? = some (.cells cs 9 (0,0)))→∀i s,i<kL→L[i]? = some s→∃g,qL=some ⟨g,0,none⟩∧V.cell? ⟨g,i,none⟩=some (.string s)∧V.cell? ⟨g,0+i,none⟩=some (.string s)):=ι fun V hV i s hi hs=>b9l HRD.out HKL.out (HNW.out.imp id fun⟨g,cs,h1,h2,h3⟩=>⟨g,cs,h1,by have:=B3.out.size;have:=HSZ.out;omega,h3⟩) hV hi s hs
  have HK4:=ι (HK2.out.later B4.out)
  have HJ4:=ι (HJ.out _ _ _ HJ2.out (CalmS.of_below B4.out))
  have HY4:=ι ((rng.Calm.of_below (B:=0) B4.out).boxed HY2.out)
  have HW4:Hid (W.heap.size≤w4.heap.size):=ι (by have:=B4.out.size;have:=HSZ.out;omega)
  clear HIN HLS hf cd cn ca3 cd3 cn3 HRD HNW B34 B3 HJ2 HY2 hW2 hkb HK2
  refine wpIn_loop (fun a' V=>∃(i:Nat) (Ds:List Nat) (u5 u6 u7 u8 u9 u10 u11 u27 u28 u29 u30 u31 u32 u33 u34 u35 u36 u37 u38 u39 u40 u41 u42 u43 u44 u45 u46 u47 u48 u49 u50 u51 u52 u53 u54 u55 u56 u57 u58 u59 u60 u61 u62:Value),i≤kL∧(J (nodesU ss f n way i) V∧Go.Boxed V W.heap.size 94 (.func (.yield l) #[] #[])∧KeepN w0 lo V1 V∧w4.heap.size≤V.heap.size∧Marks W.heap.size V.heap.size Ds V∧InN w0 w4 lo V1 W.heap.size V.heap.size l Ds V)∧a'={ tmps := #[.func (.yield l) #[] #[],.pointer (some ⟨bd,0,none⟩),.pointer (some ⟨bn,0,none⟩),.pointer (some ⟨ba,0,none⟩),.pointer (some ⟨W.heap.size,0,none⟩),u5,u6,u7,u8,u9,u10,u11,.pointer p,.int .i64 n,aggI xi,.int .i64 xi.kind,.bool false,.bool false,.slice pa way.length ca,.int .i64 (way.length:Int),.bool false,.bool false,.pointer p,.int .i64 n,.slice qL kL cL,.int .i64 (kL:Int),.int .i64 (i:Int),u27,u28,u29,u30,u31,u32,u33,u34,u35,u36,u37,u38,u39,u40,u41,u42,u43,u44,u45,u46,u47,u48,u49,u50,u51,u52,u53,u54,u55,u56,u57,u58,u59,u60,u61,u62],defers:=marksD Ds }) (fun a' _=>kL-(intOf (a'.tmps.getD 26 undef)).toNat) ?_ ?_
  ·exact⟨0,[],undef,undef,undef,undef,undef,undef,undef,undef,undef,undef,undef,undef,undef,undef,undef,undef,undef,undef,undef,undef,undef,undef,undef,undef,undef,undef,undef,undef,undef,undef,undef,undef,undef,undef,undef,undef,undef,undef,undef,undef,undef,undef,undef,by omega,⟨HJ4.out,HY4.out,HK4.out,Nat.le_refl _,⟨List.nodup_nil,fun D hD=>by cases hD⟩,⟨HY4.out,HK4.out,Nat.le_refl _,⟨List.nodup_nil,fun D hD=>by cases hD⟩,HKS4.out⟩⟩,rfl⟩
  clear HJ4 HY4 HK4 HKS4
  rintro _ wr ⟨i,Ds,u5,u6,u7,u8,u9,u10,u11,u27,u28,u29,u30,u31,u32,u33,u34,u35,u36,u37,u38,u39,u40,u41,u42,u43,u44,u45,u46,u47,u48,u49,u50,u51,u52,u53,u54,u55,u56,u57,u58,u59,u60,u61,u62,hi,hR,rfl⟩
  have HR:=ι hR
  clear hR
  by_cases hlt:i<kL
  ·have hlti:(i:Int)<(kL:Int):=by omega
   obtain⟨nm,hnm⟩:∃s,L[i]? = some s:=⟨_,List.getElem?_eq_getElem (by have:=HKL.out;omega)⟩
   obtain⟨g,rfl,ck,ck0⟩:=HNA.out wr HR.out.2.2.2.2.2.rows i nm hlt hnm
   have HDk:=ι (HD.out.later HR.out.2.2.1.below)
   have cd:=HBD.out wr HR.out.2.2.1
   have cn:=HBN.out wr HR.out.2.2.1
   have HNI:=ι hnm
   obtain⟨kk,hkk⟩:∃kk,(findO ss n nm).getD 0=kk:=⟨_,rfl⟩
   obtain⟨bb,hbb⟩:∃b,(findO ss n nm).isSome=b:=⟨_,rfl⟩
   have HF:=ι (b9q wr (.pointer p) ss n nm HDk.out)
   have ht:tgt ss n nm=(entAt ss (kk:Int)).target:=by rw[tgt,hkk]
   have hk24:kk<24:=by
    rw[← hkk]
    cases hf:findO ss n nm with
    | none=>exact(by omega:(0:Nat)<24)
    | some k=>exact b9t hf
   rw[optV,hkk,hbb] at HF
   have HE:=ι fun v (hb:Below wr.heap.size wr v)=>b2o v (.pointer p) ss (kk:Int) (HDk.out.later hb) (WalkArith.wf_i64 (by omega))
   obtain⟨en,hen⟩:∃y,entAt ss (kk:Int)=y:=⟨_,rfl⟩
   rw[hen] at ht HE
   have hf3:∀v,(Instr.field 119 (aggE en) 3).run Tryz.prog v = .ok (.int .i64 en.target) v:=fun v=>fieldE3 en v
   have HT:=ι ht
   have HEN:=ι hen
   have HCC:=ι fun v (hb:Below wr.heap.size wr v)=>b0s v pa way.length ca (strC way) nm ((HOW.out v (HR.out.2.2.1.later hb)).rd) (by omega) (b8p way)
   clear hkk hbb ht hen hnm hk24
   gi_wp2_with (first
    | (refine⟨trivial,?_⟩;gi_at_call 56;refine(callsIn_wide.2 HF.out).mono ?_;rintro e w5 ⟨rfl,hb⟩;have B5:=ι hb;have cd5:=HBD.out w5 (HR.out.2.2.1.later hb);have ca5:=HBA.out w5 (HR.out.2.2.1.later hb);clear hb)
    | (refine⟨trivial,?_⟩;gi_at_call 57;refine(callsIn_wide.2 (HE.out _ B5.out)).mono ?_;rintro e w6 ⟨rfl,hb⟩;have B6:=ι (a0a B5.out hb);have ca6:=HBA.out w6 (HR.out.2.2.1.later B6.out);clear hb)
    | (refine⟨trivial,?_⟩;gi_at_call 80;refine(callsIn_wide.2 (HCC.out _ B6.out)).mono ?_;rintro e w8 ⟨q8,c8,rfl,ho8,hb8⟩;have HO8:=ι ho8;have B8:=ι (a0a B6.out hb8);have B68:=ι hb8;clear ho8 hb8))
   have HIN8:Hid (InN w0 w4 lo V1 W.heap.size wr.heap.size l Ds w8):=ι (HR.out.2.2.2.2.2.later B8.out)
   have HJ8:=ι (HJ.out _ _ _ HR.out.1 (CalmS.of_below B8.out))
   have HLI:Hid ((listV ss n)[i]? = some nm):=ι (by rw[← HLL.out];exact HNI.out)
   have HNI2:=ι (b5f (List.mem_of_getElem? HLI.out))
   have HWY:Hid (∀x∈way++[bys nm],isNm x=true):=ι fun x hx=>by
    rcases List.mem_append.1 hx with h|h
    ·exact HNM.out x h
    ·rw[List.mem_singleton.1 h];exact HNI2.out
   have hta:0≤en.target∧en.target≤255:=by
    have h:=b2p HDk.out.secs.1 (kk:Int)
    have e:=HEN.out
    rw[e] at h
    exact⟨h.2.2.1,h.2.2.2⟩
   have HTA:=ι hta
   clear hta
   have HO8':Hid (rows.Own w8 wr.heap.size 9 1 (.slice q8 (way.length+1) c8) (way.length+1) (strC (way++[bys nm]))):=ι (by
    rw[b7o]
    have h6:=B6.out.size
    exact⟨HO8.out.1,HO8.out.2.imp id fun⟨g,cap,cur,h1,h2,r⟩=>⟨g,cap,cur,h1,Nat.le_trans h6 h2,r⟩⟩)
   have HCN:=ι fun v (hb:Below w8.heap.size w8 v)=>b7m v (.pointer p) ss ((HDk.out.later B8.out).later hb) en.target (WalkArith.wf_i64 (by have:=HTA.out;omega)) q8 (way.length+1) c8 (way++[bys nm]) (HO8'.out.rd.later hb) (by omega) (fun x hx=>by have:=(a8e (HWY.out x hx)).2;omega)
   obtain⟨xn,hxn⟩:∃x,nodeV ss en.target (way++[bys nm])=x:=⟨_,rfl⟩
   rw[hxn] at HCN
   have HXN:=ι hxn
   clear hxn
   have HST:Hid (nodesU ss f n way (i+1)=nodesU ss f n way i++(xn::nodesF ss f en.target (way++[bys nm]))):=ι (by rw[b1g HLI.out,HT.out,HXN.out])
   have HPR:Hid (nodesU ss f n way i++[xn] <+: nodesF ss (f+1) n way):=ι (by
    refine List.IsPrefix.trans ?_ (a7l (i+1) HKD.out)
    rw[HST.out]
    exact⟨nodesF ss f en.target (way++[bys nm]),by simp⟩)
   have HYD:Hid (∀w9,Below w8.heap.size w8 w9→YieldAt Fence.wide 9 Tryz.prog l #[aggN xn] w9 fun e V=>∃bo:Bool,e = .returned (.bool bo)∧((bo=true∧J (nodesU ss f n way i++[xn]) V∧InN w0 w4 lo V1 W.heap.size wr.heap.size l Ds V∧rows.Own V wr.heap.size 9 1 (.slice q8 (way.length+1) c8) (way.length+1) (strC (way++[bys nm])))∨(bo=false∧Jx (nodesU ss f n way i++[xn]) V∧Marks W.heap.size wr.heap.size Ds V))):=ι fun w9 hb=>by
    have hI9:=HIN8.out.later hb
    have hJ9:=HJ.out _ _ _ HJ8.out (CalmS.of_below hb)
    have hW9:=HR.out.2.2.2.1
    have hs4:=HW4.out
    obtain⟨fn,tmps,assign,body,hy,hR⟩:=HY.out _ xn w9 hJ9 (by have:=hI9.size;omega) HPR.out
    refine⟨fn,tmps,assign,body,hy,hR.mono ?_⟩
    rintro e V (⟨rfl,hJ2,hT⟩|⟨rfl,hJ2,hT⟩)
    ·exact⟨true,rfl,.inl ⟨rfl,hJ2,hI9.turn hT HZW.out H1.out H2.out,b2j (⟨HO8'.out.1,HO8'.out.2.imp id fun⟨g,cap,cur,h1,h2,h3,r⟩=>⟨g,cap,cur,h1,h2,(hb.block g (Array.getElem?_eq_some_iff.1 h3).1).trans h3,r⟩⟩) hT fun k o hk hs hm=>by
      rcases HZW.out _ _ hm with h|h
      ·omega
      ·exact hs h⟩⟩
    ·exact⟨false,rfl,.inr ⟨rfl,hJ2,hI9.marks.turn hT fun k hk hm=>by
      rcases hm with h|⟨_,_,h⟩
      ·omega
      ·cases h⟩⟩
   have HB8D:Hid (Below w8.heap.size w8 w8.drew):=ι ⟨rfl,rfl,rfl,Nat.le_refl _,fun _ _=>rfl⟩
   have cy8:w8.drew.cell? ⟨W.heap.size,0,none⟩=some (.func (.yield l) #[] #[]):=(HIN8.out.box).cell
   have cd8:w8.drew.cell? ⟨bd,0,none⟩=some (.pointer p):=HBD.out w8 HIN8.out.keep
   refine wpIn_mono (Q:=Exit.then (fun a' V=>∃bo:Bool,((bo=true∧J (nodesU ss f n way i++[xn]) V∧InN w0 w4 lo V1 W.heap.size wr.heap.size l Ds V∧rows.Own V wr.heap.size 9 1 (.slice q8 (way.length+1) c8) (way.length+1) (strC (way++[bys nm])))∨(bo=false∧Jx (nodesU ss f n way i++[xn]) V∧Marks W.heap.size wr.heap.size Ds V))∧a'={ tmps := #[.func (.yield l) #[] #[],.pointer (some ⟨bd,0,none⟩),.pointer (some ⟨bn,0,none⟩),.pointer (some ⟨ba,0,none⟩),.pointer (some ⟨W.heap.size,0,none⟩),u5,.string nm,.int .i64 (kk:Int),.bool bb,.int .i64 en.target,.slice q8 (way.length+1) c8,u11,.pointer p,.int .i64 n,aggI xi,.int .i64 xi.kind,.bool false,.bool false,.slice pa way.length ca,.int .i64 (way.length:Int),.bool false,.bool false,.pointer p,.int .i64 n,.slice (some ⟨g,0,none⟩) kL cL,.int .i64 (kL:Int),.int .i64 (i:Int),.bool true,.pointer (some ⟨g,i,none⟩),.string nm,.tuple #[.int .i64 (kk:Int),.bool bb],.pointer p,.int .i64 n,.string nm,.tuple #[.int .i64 (kk:Int),.bool bb],.int .i64 (kk:Int),.bool bb,.pointer p,.int .i64 (kk:Int),aggE en,.int .i64 en.target,.slice pa way.length ca,.string nm,.slice (some ⟨w6.heap.size,0,none⟩) 1 1,.slice (some ⟨w6.heap.size+1,0,none⟩) 2 2,.slice q8 (way.length+1) c8,.func (.yield l) #[] #[],.pointer p,.int .i64 en.target,.slice q8 (way.length+1) c8,aggN xn,.bool bo,.bool (!bo),u53,u54,u55,u56,u57,u58,u59,u60,u61,u62],defers:=marksD Ds }) (fun _ _ _=>False)) ?_ ?_
   ·gi_region_with (first
     | (refine⟨trivial,?_⟩;gi_at_call 81;refine(callsIn_wide.2 (HCN.out w8.drew HB8D.out)).mono ?_;rintro e w9 ⟨rfl,hb9⟩;have hb89:Below w8.heap.size w8 w9:=a0a HB8D.out hb9;have cy9:w9.cell? ⟨W.heap.size,0,none⟩=some (.func (.yield l) #[] #[]):=((HIN8.out.later hb89).box).cell;obtain⟨fn,tmps,assign,body,hy9,hR9⟩:=HYD.out w9 hb89;have HR9:=ι hR9;clear hR9 hb9 hb89)
     | (refine RoundIn.mono HR9.out ?_;rintro e V ⟨bo,rfl,hpost⟩;have HPO:=ι hpost;clear hpost))
    all_goals exact⟨bo,HPO.out,rfl⟩
   rintro e a' V he
   obtain rfl:e = .normal:=by cases e<;>first|rfl|exact he.elim
   obtain⟨bo,hpost,rfl⟩:=he
   rcases hpost with⟨rfl,hJ9,hI9,hO9⟩|⟨rfl,hJ9,hM9⟩
   ·have HJ9:=ι hJ9
    have HI9:=ι hI9
    have HO9:=ι hO9
    clear hJ9 hI9 hO9
    have cd9:=HBD.out V HI9.out.keep
    gi_wp2_with (refine⟨trivial,?_⟩;gi_at_call 35;refine(callsIn_wide.2 (a6w p en.target q8 (way.length+1) c8 V)).mono ?_;rintro e wa ⟨rfl,hwa⟩;have HWA:=ι hwa;clear hwa)
    have HBa:Hid (Below V.heap.size V wa):=ι (by rw[HWA.out];exact a0b (a0b (a0b (Below.refl _ _) _) _) _)
    have HBX:Hid (Go.Boxed wa V.heap.size 28 (.pointer p)∧Go.Boxed wa (V.heap.size+1) 3 (.int .i64 en.target)∧Go.Boxed wa (V.heap.size+2) 113 (.slice q8 (way.length+1) c8)):=ι (by
     rw[HWA.out]
     have e0:=((Go.Boxed.new V 28 (.pointer p)).alloc (.cells #[.int .i64 en.target] 3)).alloc (.cells #[.slice q8 (way.length+1) c8] 113)
     have e1:=(Go.Boxed.new (V.alloc (.cells #[.pointer p] 28)) 3 (.int .i64 en.target)).alloc (.cells #[.slice q8 (way.length+1) c8] 113)
     have e2:=Go.Boxed.new ((V.alloc (.cells #[.pointer p] 28)).alloc (.cells #[.int .i64 en.target] 3)) 113 (.slice q8 (way.length+1) c8)
     simp only[World.size_alloc] at e0 e1 e2
     exact⟨e0,e1,e2⟩)
    have HSa:Hid (wa.heap.size=V.heap.size+3):=ι (by rw[HWA.out];simp[World.size_alloc])
    clear HWA
    have HWR:Hid (W.heap.size≤wr.heap.size):=ι (by have:=HR.out.2.2.2.1;have:=HW4.out;omega)
    have HVR:Hid (wr.heap.size≤V.heap.size):=ι HI9.out.size
    have HIa:Hid (InN w0 w4 lo V1 W.heap.size wa.heap.size l Ds wa):=ι ((HI9.out.later HBa.out).grow (by have:=HVR.out;have:=HSa.out;omega) (Nat.le_refl _))
    have HJa:Hid (J (nodesU ss f n way i++[xn]++[]) wa):=ι (by rw[List.append_nil];exact HJ.out _ _ _ HJ9.out (CalmS.of_below HBa.out))
    have HOa:Hid (rows.Own wa wr.heap.size 9 1 (.slice q8 (way.length+1) c8) (way.length+1) (strC (way++[bys nm]))):=ι (b2j (m:=fun _ _=>False) HO9.out (Turn.of_below HBa.out) fun _ _ _ _ h=>h)
    have HPX:Hid (∀s,s <+: nodesF ss f en.target (way++[bys nm])→nodesU ss f n way i++[xn]++s <+: nodesF ss (f+1) n way):=ι (by
     rintro s ⟨u,hu⟩
     refine List.IsPrefix.trans ⟨u,?_⟩ (a7l (i+1) HKD.out)
     rw[HST.out,← hu]
     simp)
    have HSQ:=ι (HIH.out w0 p en.target (way++[bys nm]) q8 (way.length+1) c8 wr.heap.size wa V.heap.size (V.heap.size+1) (V.heap.size+2) (fun b o=>b=wa.heap.size+1∨m b o) wa HD.out HTA.out.1 HTA.out.2 HWY.out (by simp;omega) HOa.out HBX.out.1 HBX.out.2.1 HBX.out.2.2 HVR.out (by have:=HVR.out;omega) (by have:=HVR.out;omega) (by have:=HS0.out;have:=HWR.out;omega) (KeepN.refl HIa.out.keep.below) (fun b o hb=>by
      have h1:=HS0.out
      have h2:=HWR.out
      have h3:=HVR.out
      have h4:=HSa.out
      rcases hb with hb|hb
      ·omega
      ·exact H1.out b o hb) (fun b o hb=>by
      have h2:=HWR.out
      rcases hb with hb|hb
      ·exact Or.inr (Or.inr (by omega))
      ·rcases HZW.out b o hb with h|h
       ·exact Or.inl (by omega)
       ·exact Or.inr (Or.inl h)))
    have HWa:Hid (W.heap.size<wa.heap.size):=ι (by have:=HWR.out;have:=HVR.out;have:=HSa.out;omega)
    have HW4a:Hid (w4.heap.size≤wa.heap.size):=ι (by have:=HR.out.2.2.2.1;have:=HVR.out;have:=HSa.out;omega)
    have HW0a:Hid (w0.heap.size≤wa.heap.size):=ι (by have:=HS0.out;have:=HWa.out;omega)
    have HV1a:Hid (V1.heap.size≤wa.heap.size):=ι (by have:=HV1.out;have:=HWa.out;omega)
    clear cd9
    refine a6m (gf:=78) (lb := #[.pointer (some ⟨V.heap.size,0,none⟩),.pointer (some ⟨V.heap.size+1,0,none⟩),.pointer (some ⟨V.heap.size+2,0,none⟩)]) rfl (fun args w=>enters_of Tryz.func78 (by kernel_rfl) rfl args w) (m:=m)
     HSQ.out
     (fun b o h=>(HZW.out b o h).imp (fun h=>by have:=HWa.out;omega) id) a0l (fun _=>rfl)
     (fun pre Vx=>J (nodesU ss f n way i++[xn]++pre) Vx∧InN w0 w4 lo V1 W.heap.size wa.heap.size l Ds Vx)
     (fun c pre Vx=>c = .ret∧Jx (nodesU ss f n way i++[xn]++pre) Vx∧Marks W.heap.size wa.heap.size Ds Vx)
     (fun s A B HH hc=>⟨HJ.out _ _ _ HH.1 (hc.mono (Nat.le_of_lt HWa.out)),HH.2.calmS hc HWa.out (Nat.le_refl _) HW4a.out HW0a.out HV1a.out⟩)
     (fun c s A B h hc=>⟨h.1,HJX.out _ _ _ h.2.1 (hc.mono (Nat.le_of_lt HWa.out)),h.2.2.calmS hc (Nat.le_refl _)⟩)
     ⟨HJa.out,HIa.out⟩
     (fun pre x a' Vx=>(J (nodesU ss f n way i++[xn]++pre) Vx∧InN w0 w4 lo V1 W.heap.size wa.heap.size l Ds Vx)∧∃(Bx:Nat) (t0 t1 t2 t3 t5 t6 t7 t8 t9 t10 t12 t13 t14 t15 t16 t17 t18 t19 t20 t21 t22 t23 t24 t25 t26 t27 t28 t29 t30 t31 t32 t33 t34 t35 t36 t37 t38 t39 t40 t41 t42 t43 t44 t45 t46 t47 t48 t49 t50 t51 t52 t53 t54 t55 t56 t57 t58 t59 t60 t61 t62:Value),fs.AtN Vx Bx x∧a'={ tmps := #[t0,t1,t2,t3,.pointer (some ⟨W.heap.size,0,none⟩),t5,t6,t7,t8,t9,t10,.pointer (some ⟨Bx,0,none⟩),t12,t13,t14,t15,t16,t17,t18,t19,t20,t21,t22,t23,t24,t25,t26,t27,t28,t29,t30,t31,t32,t33,t34,t35,t36,t37,t38,t39,t40,t41,t42,t43,t44,t45,t46,t47,t48,t49,t50,t51,t52,t53,t54,t55,t56,t57,t58,t59,t60,t61,t62],defers:=[] })
     (fun s x a' A B h hc2=>by
      have hc:=CalmS.of a0l hc2
      obtain⟨HH,Bx,t0,t1,t2,t3,t5,t6,t7,t8,t9,t10,t12,t13,t14,t15,t16,t17,t18,t19,t20,t21,t22,t23,t24,t25,t26,t27,t28,t29,t30,t31,t32,t33,t34,t35,t36,t37,t38,t39,t40,t41,t42,t43,t44,t45,t46,t47,t48,t49,t50,t51,t52,t53,t54,t55,t56,t57,t58,t59,t60,t61,t62,h2,h3⟩:=h
      exact⟨⟨HJ.out _ _ _ HH.1 (hc.mono (Nat.le_of_lt HWa.out)),HH.2.calmS hc HWa.out (Nat.le_refl _) HW4a.out HW0a.out HV1a.out⟩,Bx,t0,t1,t2,t3,t5,t6,t7,t8,t9,t10,t12,t13,t14,t15,t16,t17,t18,t19,t20,t21,t22,t23,t24,t25,t26,t27,t28,t29,t30,t31,t32,t33,t34,t35,t36,t37,t38,t39,t40,t41,t42,t43,t44,t45,t46,t47,t48,t49,t50,t51,t52,t53,t54,t55,t56,t57,t58,t59,t60,t61,t62,hc2.block _ _ h2 (Or.inr rfl),h3⟩)
     ?assign ?body ?done ?stop
    case assign =>
     rintro l2 pre x Vx hI hsz _
     obtain⟨x1,x2,x3⟩:=x
     have HI2:=ι hI
     clear hI
     simp only[aggN]
     gi_wp2
     have hb:=a0b (Below.refl Vx.heap.size Vx) (.cells #[.string x1,.bool x2,.string x3] 35)
     exact⟨⟨⟨HJ.out _ _ _ HI2.out.1 (CalmS.of_below hb),HI2.out.2.later hb⟩,Vx.heap.size,_,_,_,_,_,_,_,_,_,_,_,_,_,_,_,_,_,_,_,_,_,_,_,_,_,_,_,_,_,_,_,_,_,_,_,_,_,_,_,_,_,_,_,_,_,_,_,_,_,_,_,_,_,_,_,_,_,_,_,_,_,heap_alloc_new _ _,rfl⟩,Turn.of_below hb⟩
    case body =>
     rintro l2 pre x a' Vx ⟨⟨hJ,hI⟩,Bx,t0,t1,t2,t3,t5,t6,t7,t8,t9,t10,t12,t13,t14,t15,t16,t17,t18,t19,t20,t21,t22,t23,t24,t25,t26,t27,t28,t29,t30,t31,t32,t33,t34,t35,t36,t37,t38,t39,t40,t41,t42,t43,t44,t45,t46,t47,t48,t49,t50,t51,t52,t53,t54,t55,t56,t57,t58,t59,t60,t61,t62,hX,rfl⟩ hsz hsp
     have hpk:(nodesU ss f n way i++[xn]++pre)++[x] <+: nodesF ss (f+1) n way:=by
      rw[List.append_assoc];exact HPX.out _ hsp
     have HYw:=a4b 8 (HY.out _ x Vx hJ (by have:=hI.size;have:=HWa.out;omega) hpk)
     obtain⟨fn,tmps,assign,body,hy0,hR⟩:=HYw
     have hy:(Instr.yield l #[.agg #[.string x.path,.bool x.dir,.string x.data]]).run Tryz.prog Vx = .ok (.round l fn tmps assign body) Vx:=hy0
     have ey:=hI.box.cell
     have x0:=hX.c0
     have x1:=hX.c1
     have x2:=hX.c2
     have HI2:=ι hI
     clear hI hy0 hpk hsp hX
     gi_wp2
     refine RoundIn.mono (F:=Fence.wide.inRound l2) hR ?_
     rintro e W4 (⟨rfl,hJ4,hT4⟩|⟨rfl,hJx4,hT4⟩)
     ·have HJ4:=ι hJ4
      have HT4:=ι hT4
      clear hy hR hJ4 hT4
      gi_wp2
      exact⟨⟨by rw[← List.append_assoc];exact HJ4.out,HI2.out.turn HT4.out HZW.out H1.out H2.out⟩,HT4.out⟩
     ·have HJX4:=ι hJx4
      have HT4:=ι hT4
      clear hy hR hJx4 hT4
      gi_wp2
      exact⟨⟨rfl,by rw[← List.append_assoc];exact HJX4.out,HI2.out.marks.turn HT4.out (fun k hk hz=>by
       rcases hz with hh|⟨_,_,hh⟩
       ·omega
       ·cases hh)⟩,HT4.out.mono fun j o hz=>hz.imp (fun h=>by have:=HWa.out;omega) id⟩
    case done =>
     rintro D ys Vx hD rfl hI hK
     have HI2:=ι hI
     clear hI
     have HSJ:Hid (J (nodesU ss f n way (i+1)) Vx):=ι (by
      rw[HST.out,List.append_cons];exact HI2.out.1)
     have hi24:(i:Int)<24:=by
      have h:kL≤24:=by rw[HKL.out,HLL.out];exact b0o ss n 24
      omega
     gi_wp2
     have hin:=HI2.out.2.moreM (by have:=HWa.out;omega) hD hK
     refine⟨⟨i+1,D::Ds,_,_,_,_,_,_,_,_,_,_,_,_,_,_,_,_,_,_,_,_,_,_,_,_,_,_,_,_,_,_,_,_,_,_,_,_,_,_,_,_,_,_,_,by omega,⟨HSJ.out,hin.box,hin.keep,by have:=HI2.out.2.size;have:=HW4a.out;omega,hin.marks,hin⟩,rfl⟩,?_⟩
     simp[intOf]
     omega
    case stop =>
     rintro D c pre Vx hD hp ⟨rfl,hx,hM⟩ hK
     have HX:=ι hx
     clear hx
     gi_wp2
     have hDl:D<Vx.heap.size:=(Array.getElem?_eq_some_iff.1 hK).1
     refine a0k (B:=W.heap.size) (C:=Vx.heap.size) (D::Ds) Vx (hM.more (by have:=HWa.out;omega) hD hDl hK) fun w' hc => ?_
     exact⟨_,results_none rfl _ _ _,⟨_,rfl⟩,.inr ⟨_,HPX.out _ hp,HJX.out _ _ _ HX.out (CalmS.of a0l hc)⟩⟩
   ·have HJ9:=ι hJ9
    have HM9:=ι hM9
    clear hJ9 hM9
    gi_wp2
    refine a0k (B:=W.heap.size) (C:=wr.heap.size) Ds V HM9.out fun w' hc => ?_
    exact⟨_,results_none rfl _ _ _,⟨_,rfl⟩,.inr ⟨_,HPR.out,HJX.out _ _ _ HJ9.out (CalmS.of a0l hc)⟩⟩
  ·obtain rfl:i=kL:=by omega
   have HALL:Hid (nodesU ss f n way i=nodesF ss (f+1) n way):=ι (b3u HKD.out (by rw[← HLL.out,HKL.out];exact Nat.le_refl _))
   gi_wp2
   refine a0k (B:=W.heap.size) (C:=wr.heap.size) Ds wr HR.out.2.2.2.2.1 fun w' hc => ?_
   exact⟨_,results_none rfl _ _ _,⟨_,rfl⟩,.inl ⟨_,HALL.out,HJ.out _ _ _ HR.out.1 (CalmS.of a0l hc)⟩⟩
 ·have hkb:(xi.kind != 2)=true:=by simpa using hkd
  have hnf:nodesF ss (f+1) n way=[]:=b6g (by rw[HXI.out];exact hkd)
  have HNF:=ι hnf
  clear hkd hnf
  gi_wp2_with (refine⟨trivial,?_⟩;gi_at_call 24;refine(callsIn_wide.2 HIN.out).mono ?_;rintro e w3 ⟨rfl,hb⟩;have B3:=ι hb;clear hb)
  refine a0k (B:=W.heap.size) (C:=w3.heap.size) [] w3 ⟨List.nodup_nil,fun D hD=>(nomatch hD)⟩ fun w' hc => ?_
  exact⟨_,results_none rfl _ _ _,⟨_,rfl⟩,.inl ⟨_,HNF.out.symm,HJ.out _ _ _ (HJ.out _ _ _ HJ2.out (CalmS.of_below B3.out)) (CalmS.of a0l hc)⟩⟩
end vw
namespace vw
set_option maxRecDepth 100000
theorem a8y{ss:List (List Int)}:∀f:Nat,NodesF ss f
 | 0=>b4c
 | f+1=>b3p f (a8y f)
end vw
namespace vw
set_option maxRecDepth 100000
open Go.ChangeShapes Go.WideShapes Go.ChangeAt Go.RowKit
open rows
open sec
open ly
open pa
open lk
open rng
open fs (Nd nodesC a6q)
structure PN (B:Nat) (w:World) (pre:List Nd) (q:Option Addr) (n c:Nat) (V:World):Prop where
 box:Go.Boxed V B 25 (.slice q n c)
 own:rows.Own V 0 35 3 (.slice q n c) n (nodesC pre)
 len:n=pre.length
 low:∀k,(Value.slice q n c).ownBlock=some k→B<k
 below:Below B w V
theorem PN.calm{B C:Nat}{w:World}{pre:List Nd}{q:Option Addr}{n c:Nat}{a b:World}(h:PN B w pre q n c a)(hc:CalmS softN C a b)(hB:B<C)(hs:B≤a.heap.size):PN B w pre q n c b:=by
 refine⟨hc.boxed hB h.box,⟨h.own.1,?_⟩,h.len,h.low,h.below.trans (hc.below (by omega) hs)⟩
 rcases h.own.2 with h2|⟨g,cap,cur,hv,h3,h4,h5⟩
 ·exact Or.inl h2
 ·exact Or.inr ⟨g,cap,cur,hv,h3,hc.block g _ h4 (Or.inr ⟨_,_,rfl⟩),h5⟩
theorem PN.later{B:Nat}{w:World}{pre:List Nd}{q:Option Addr}{n c:Nat}{a b:World}(h:PN B w pre q n c a)(hb:Below a.heap.size a b):PN B w pre q n c b :=
 ⟨(rng.Calm.of_below (B:=0) hb).boxed h.box,a3x h.own (rng.Calm.of_below (B:=0) hb),h.len,h.low,h.below.trans (hb.mono (Nat.le_of_lt h.box.lt))⟩
theorem c0w{B:Nat}{w:World}{pre:List Nd}{q:Option Addr}{n c:Nat}{V wa:World}{o:Obj}{pa:Option Addr}{ca:Nat}{x:Nd}(h:PN B w pre q n c V)
  (hoa:rows.Own wa 0 35 3 (.slice pa (n+1) ca) (n+1) (nodesC pre++x.c)) (hta:dsk.Touch (fun g=>(Value.slice q n c).ownBlock=some g) (V.alloc o) wa)
  (hla:∀g,(Value.slice pa (n+1) ca).ownBlock=some g→(Value.slice q n c).ownBlock=some g∨((V.alloc o).heap.size≤g∧g<wa.heap.size)) :
  PN B w (pre++[x]) pa (n+1) ca (wa.setCell ⟨B,0,none⟩ (.slice pa (n+1) ca))∧Turn (fun b o=>b=B∨(B<b∧∃cs,o = .cells cs 35 (0,0))) V (wa.setCell ⟨B,0,none⟩ (.slice pa (n+1) ca)):=by
 have hBV:=h.box.lt
 have hlow:∀g,(Value.slice pa (n+1) ca).ownBlock=some g→B<g:=fun g hg=>by
  rcases hla g hg with h1|h1
  ·exact h.low g h1
  ·have:=h1.1
   rw[World.size_alloc] at this
   omega
 have hb8:=a3q (h.box.alloc o) hta (fun e=>Nat.lt_irrefl _ (h.low _ e))
 have ht4:dsk.Touch (fun g=>(Value.slice q n c).ownBlock=some g∨g=B) V (wa.setCell ⟨B,0,none⟩ (.slice pa (n+1) ca)):=dsk.Touch.setCell (S:=fun g=>(Value.slice q n c).ownBlock=some g∨g=B) (((dsk.Touch.alloc (dsk.Touch.refl _ V) _).trans hta).mono (fun i hi=>Or.inl hi)) ⟨B,0,none⟩ (Or.inr rfl) _
 refine⟨⟨hb8.set _,?_,by rw[List.length_append,← h.len];rfl,hlow,h.below.trans (ht4.below (Nat.le_of_lt hBV) fun k hk => ?_)⟩,Turn.of_touch' ht4 fun k o hko hk => ?_⟩
 ·rw[a6q,show nodesC [x]=x.c by simp[nodesC]]
  exact dsk.a0i (S:=fun k=>B<k) hoa hlow (dsk.Keeps.set (fun g hg=>by omega) _)
 ·rcases hk with hk|rfl
  ·exact Nat.le_of_lt (h.low k hk)
  ·exact Nat.le_refl _
 ·rcases hk with hk|rfl
  ·obtain⟨cur,hc⟩:=own_atR h.own hk
   rw[hko] at hc
   exact Or.inr ⟨h.low k hk,cur,Option.some.inj hc⟩
  ·exact Or.inl rfl
end vw
end Go.Proofs.YtjedjkjhodgidaaGreatDoor
