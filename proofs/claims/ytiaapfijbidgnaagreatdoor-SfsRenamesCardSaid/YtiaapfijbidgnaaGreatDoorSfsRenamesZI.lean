/- What SfsRenames wants, part 35. -/
import Derived.Test.YtiaapfijbidgnaaGreatDoorSfsRenamesB
import Derived.Test.YtiaapfijbidgnaaGreatDoorSfsRenamesG
import Derived.Test.YtiaapfijbidgnaaGreatDoorSfsRenamesH
import Derived.Test.YtiaapfijbidgnaaGreatDoorSfsRenamesT
import Derived.Test.YtiaapfijbidgnaaGreatDoorSfsRenamesZE
import Derived.Test.YtiaapfijbidgnaaGreatDoorSfsRenamesZF
import Derived.Test.YtiaapfijbidgnaaGreatDoorSfsRenamesZH
set_option linter.unusedVariables false
set_option linter.unusedSimpArgs false
namespace Go.Proofs.YtiaapfijbidgnaaGreatDoor
namespace fs
set_option maxRecDepth 100000
open Go.ChangeShapes Go.WideShapes Go.ChangeAt Go.RowKit
open rows
open sec
open dsk (St Wr.c CA)
open ly
open pa
open lk
open al
set_option maxRecDepth 100000 in
theorem c5f(w:World)(d:Value)(ss:List (List Int))(hd:Dk w d ss)(hl:0<ss.length)(hm:mountsB ss=true):Calls Tryz.prog 11 #[d] w fun e w'=>∃g,e = .returned (.tuple #[.pointer (some ⟨g,0,none⟩),.int .i64 0])∧FR w' g d∧w.heap.size≤g∧Below w.heap.size w w':=by
 have HM:=ι fun w' (hb:Below w.heap.size w w')=>b2u w' d ss (hd.later hb)
 rw[hm] at HM
 have HR:=ι (dread w d ss 0 hd (a0f (by omega)))
 rw[if_pos ⟨by omega,by omega⟩] at HR
 have HX:=ι (a1b hd.secs.1 0)
 obtain⟨pd,rfl⟩:=c3k hd
 generalize secAt ss 0=s at *
 clear hd hl hm
 go_enter Tryz.func11,Tryz.ntmps11
 go_wp2_with (first
  | (go_at_call 59;refine HR.out.mono ?_;rintro e w1 ⟨rfl,hb⟩;have B1:=ι hb;clear hb)
  | (refine a0i rfl (.tmp 4) (.tmp 10) rfl rfl w1.heap.size s zero32 rfl rfl HX.out.1 (by decide) (a1i w1) ?_;intro w2 hA hB _;have B2:=ι (a0b B1.out ((a0a (Below.refl _ w1) _).trans hB));clear hA hB)
  | (go_at_call 60;refine(HM.out _ B2.out).mono ?_;rintro e w3 ⟨rfl,hb⟩;have B3:=ι (a0b B2.out hb);clear hb))
 go_ret2
 exact⟨w3.heap.size,rfl,heap_alloc_new _ _,B3.out.size,a0a B3.out _⟩
set_option maxRecDepth 100000 in
theorem b7i(w:World)(d:Value)(ss:List (List Int))(hd:Dk w d ss)(x:Int)(h:(ss.length=0∧x=1)∨(0<ss.length∧mountsB ss=false∧x=8)):Calls Tryz.prog 11 #[d] w (Rt w (.tuple #[.pointer none,.int .i64 x])):=by
 have HM:=ι fun w' (hb:Below w.heap.size w w')=>b2u w' d ss (hd.later hb)
 have HR:=ι (dread w d ss 0 hd (a0f (by omega)))
 have HX:=ι (a1b hd.secs.1 0)
 obtain⟨pd,rfl⟩:=c3k hd
 generalize secAt ss 0=s at *
 rcases h with⟨h1,rfl⟩|⟨h1,h2,rfl⟩
 ·rw[if_neg (by omega)] at HR
  clear hd h1 HM
  go_enter Tryz.func11,Tryz.ntmps11
  go_wp2_with (first
   | (go_at_call 59;refine HR.out.mono ?_;rintro e w1 ⟨rfl,hb⟩;have B1:=ι hb;clear hb)
   | (refine a0i rfl (.tmp 4) (.tmp 10) rfl rfl w1.heap.size s zero32 rfl rfl HX.out.1 (by decide) (a1i w1) ?_;intro w2 hA hB _;have B2:=ι (a0b B1.out ((a0a (Below.refl _ w1) _).trans hB));clear hA hB))
  go_ret2
  exact⟨rfl,B2.out⟩
 ·rw[if_pos ⟨by omega,by omega⟩] at HR
  rw[h2] at HM
  clear hd h1 h2
  go_enter Tryz.func11,Tryz.ntmps11
  go_wp2_with (first
   | (go_at_call 59;refine HR.out.mono ?_;rintro e w1 ⟨rfl,hb⟩;have B1:=ι hb;clear hb)
   | (refine a0i rfl (.tmp 4) (.tmp 10) rfl rfl w1.heap.size s zero32 rfl rfl HX.out.1 (by decide) (a1i w1) ?_;intro w2 hA hB _;have B2:=ι (a0b B1.out ((a0a (Below.refl _ w1) _).trans hB));clear hA hB)
   | (go_at_call 60;refine(HM.out _ B2.out).mono ?_;rintro e w3 ⟨rfl,hb⟩;have B3:=ι (a0b B2.out hb);clear hb))
  go_ret2
  exact⟨rfl,B3.out⟩
def FI(d:Value)(w:World)(F:Nat→Prop)(f:Value)(st:St):Prop:=∃g G,f = .pointer (some ⟨g,0,none⟩)∧F g∧(∀b,G b→F b)∧FsAt w G g d st
theorem a7m{d:Value}{w w':World}{F G:Nat→Prop}{g:Nat}{r:Int×St}{e:Ending}(hF:F g)(hG:∀b,G b→F b)(h:PDone (fun b=>G b∧b<w.heap.size) g d w r e w'):FDone (FI d) F (.pointer (some ⟨g,0,none⟩)) w r e w' :=
 ⟨h.1,⟨g,_,rfl,Or.inl hF,fun b hb=>hb.imp (fun h=>hG b h.1) id,h.2.1⟩,h.2.2.mono fun b hb=>hG b hb.1⟩
theorem b0e{d:Value}{w:World}{F:Nat→Prop}{f:Value}{st:St}{k:Nat}(h:FI d w F f st)(hg:st.good k)(hk:k≤880):∃g,f = .pointer (some ⟨g,0,none⟩)∧FK w g d (nowL st):=by
 obtain⟨g,G,rfl,_,_,h⟩:=h
 exact⟨g,rfl,h.known hg (by omega)⟩
theorem sfsIs(d:Value):SfsIs (FI d) where
 kept:=fun w w' F f st ⟨g,G,h1,h2,h3,h4⟩ k=>⟨g,G,h1,h2,h3,⟨(k.2 g h4.row.lt h2).trans h4.row,dsk.ca_kept _ _ _ _ _ h4.code (k.mono h3),h4.apart⟩⟩
 mono:=fun w F G f st ⟨g,H,h1,h2,h3,h4⟩ hFG=>⟨g,H,h1,hFG _ h2,fun b hb=>hFG b (h3 b hb),h4⟩
 read:=fun w F f st k s h hg hk hm hs=>by
  obtain⟨g,rfl,hk⟩:=b0e h hg hk
  exact fread w g d _ s hk hm hs
 exist:=fun w F f st k s h hg hk hm hs=>by
  obtain⟨g,rfl,hk⟩:=b0e h hg hk
  exact fexists w g d _ s hk hm hs
 create:=fun w F f st k s ⟨g,G,h1,h2,h3,h4⟩ hg hk hm hs=>by
  subst h1
  exact(fcreate _ g d st w (fun b hb=>hb.2) (a2b h4) k hg (by omega) hm s hs).mono fun e w' hd=>a7m h2 h3 hd
 mkdir:=fun w F f st k s ⟨g,G,h1,h2,h3,h4⟩ hg hk hm hs=>by
  subst h1
  exact(fmkdir _ g d st w (fun b hb=>hb.2) (a2b h4) k hg (by omega) hm s hs).mono fun e w' hd=>a7m h2 h3 hd
 write:=fun w F f st k s off p m c b ⟨g,G,h1,h2,h3,h4⟩ hg hk hm hs ho hb hin hm3 hbb=>by
  subst h1
  exact(fwrite _ g d st w (fun b hb=>hb.2) (a2b h4) k hg (by omega) hm s hs off ho p m c b hb hm3 hbb).mono fun e w' hd=>a7m h2 h3 hd
 append:=fun w F f st k s p m c b ⟨g,G,h1,h2,h3,h4⟩ hg hk hm hs hb hin hm3 hbb=>by
  subst h1
  exact(fappend _ g d st w (fun b hb=>hb.2) (a2b h4) k hg (by omega) hm s hs p m c b hb hm3 hbb).mono fun e w' hd=>a7m h2 h3 hd
 trunc:=fun w F f st k s z ⟨g,G,h1,h2,h3,h4⟩ hg hk hm hs hz=>by
  subst h1
  exact(ftrunc _ g d st w (fun b hb=>hb.2) (a2b h4) k hg (by omega) hm s hs z hz).mono fun e w' hd=>a7m h2 h3 hd
 rename:=fun w F f st k s u ⟨g,G,h1,h2,h3,h4⟩ hg hk hm hs hu=>by
  subst h1
  exact(frename _ g d st w (fun b hb=>hb.2) (a2b h4) k hg (by omega) hm s u hs hu).mono fun e w' hd=>a7m h2 h3 hd
 unlink:=fun w F f st k s ⟨g,G,h1,h2,h3,h4⟩ hg hk hm hs=>by
  subst h1
  exact(funlink _ g d st w (fun b hb=>hb.2) (a2b h4) k hg (by omega) hm s hs).mono fun e w' hd=>a7m h2 h3 hd
theorem sfsHas:SfsHas FI where
 mount:=fun w F d st k h hg hk hm=>by
  have hsn:=b0f st fun x hx=>(hg.ws x hx).2
  have hl:(nowL st).length=st.safe.length:=now_len st
  unfold mountV at hm
  split at hm
  ·cases hm
  ·rename_i h0
   split at hm
   ·rename_i h1
    refine(c5f w d (nowL st) (Or.inr ⟨F,st,h,hg.fine (by omega),hsn.symm⟩) (by omega) h1).mono ?_
    rintro e w' ⟨g,rfl,hr,hgl,hb⟩
    have hgw:=hr.lt
    refine⟨_,rfl,⟨g,fun b=>F b∧b<w.heap.size,rfl,Or.inr ⟨hgl,hgw⟩,fun b hb=>Or.inl hb.1,⟨hr,lk.CA.later' (dsk.CA.narrow h) hb,fun hh=>by have:=hh.2;omega⟩⟩,hb⟩
   ·cases hm
 disk:=fun d w F f st k ⟨g,G,h1,h2,h3,h4⟩ hg hk=>by
  subst h1
  exact fdisk g d w h4.row
 code:=fun d w F f st ⟨g,G,h1,h2,h3,h4⟩=>b6o h4.code h3
theorem kn_size:(fileV (nowL stB) txA).2.1.size=2∧(fileV (nowL stB) txA).2.2=0:=by decide +kernel
theorem kn_four:stB.wait.length=4:=by decide +kernel
theorem knHas:KnHas FI where
 size:=fun d w F f h hm=>by
  obtain⟨g,rfl,hk⟩:=b0e h goodB (by omega)
  have h:=fsize w g d _ txA hk hm (by decide)
  rw[kn_size.1,kn_size.2] at h
  exact h
 wait:=fun d w F h=>by
  have h1:=dsk.cwaitingO w F d stB h (goodB.fine (by omega))
  rw[kn_four] at h1
  refine h1.mono ?_
  rintro e w' ⟨p,c,rfl,ho,hb⟩
  exact⟨p,c,rfl,ho.rd,(dsk.c0e ho).mono fun b hb=>hb.1,hb⟩
end fs
namespace fs
set_option maxRecDepth 100000
open Go.ChangeShapes Go.WideShapes Go.ChangeAt Go.RowKit
open rows
open sec
open dsk (grow St CA st0 a8a c3d)
open ly
open pa
open lk
open al
theorem c4f{w:World}{p:Option Addr}{n c:Nat}{ss:List (List Int)}(hs:Secs ss)(hr:Rd w 32 (.slice p n c) n (cellsOf ss)):ss.length=n:=by
 have:=hr.cells
 rw[a0t hs] at this
 omega
set_option maxRecDepth 100000 in
theorem qfresh(w:World)(p:Option Addr)(n c:Nat)(ss:List (List Int))(hs:Secs ss)(hr:Rd w 32 (.slice p n c) n (cellsOf ss))(hn:n≤200) :
  Calls Tryz.prog 27 #[.slice p n c] w fun e w'=>Below w.heap.size w w'∧((e = .returned (.pointer none)∧mountsB ss=false)∨∃ad d,e = .returned (.pointer (some ad))∧FI d w' (fun b=>w.heap.size≤b∧b<w'.heap.size) (.pointer (some ad)) (st0 ss)∧mountsB ss=true):=by
 have hsl:=c4f hs hr
 by_cases h1:1≤n∧n≤65
 ·have HF:=ι (a8a w p n c ss hs hr h1.1 h1.2)
  have hg:=a5m hs (by omega)
  by_cases hm:mountsB ss=true
  ·have hmv:mountV (st0 ss)=0:=by
    unfold mountV
    rw[a7k,hm,if_neg (show ¬(st0 ss).safe.length=0 by show ¬ss.length=0;omega),if_pos rfl]
   have HM:=ι fun w1 F d (h:CA w1 F d (st0 ss))=>sfsHas.mount w1 F d (st0 ss) 0 h hg (by decide) hmv
   clear hs hr h1 hg hmv
   go_enter Tryz.func27,Tryz.ntmps27
   go_wp2_with (first|(go_at_call 9;refine HF.out.mono ?_;rintro e w1 ⟨ad,rfl,hc,hb⟩;have HC:=ι hc;have B1:=ι hb;clear hc hb)|(go_at_call 11;refine(HM.out _ _ _ HC.out).mono ?_;rintro e w2 ⟨af,rfl,hf,hb⟩;have HFI:=ι hf;have B2:=ι hb;clear hf hb))
   go_ret
   have h1:=B1.out
   have h2:=B2.out
   exact⟨a0b h1 h2,Or.inr ⟨_,_,rfl,(sfsIs _).mono _ _ _ _ _ HFI.out (fun b hb=>by
    have s1:=h1.size
    have s2:=h2.size
    rcases hb with hb|hb<;>omega),hm⟩⟩
  ·have hm0:mountsB ss=false:=by simpa using hm
   have HM:=ι fun w1 F d (h:CA w1 F d (st0 ss))=>b7i w1 d ss (Or.inr ⟨F,st0 ss,h,hg.fine (by omega),(b0f (st0 ss) fun x hx=>(by cases hx)).symm⟩) 8 (Or.inr ⟨by omega,hm0,rfl⟩)
   clear hs hr h1 hg hm
   go_enter Tryz.func27,Tryz.ntmps27
   go_wp2_with (first|(go_at_call 9;refine HF.out.mono ?_;rintro e w1 ⟨ad,rfl,hc,hb⟩;have HC:=ι hc;have B1:=ι hb;clear hc hb)|(go_at_call 11;refine(HM.out _ _ _ HC.out).mono ?_;rintro e w2 ⟨rfl,hb⟩;have B2:=ι hb;clear hb))
   go_ret
   exact⟨a0b B1.out B2.out,Or.inl ⟨rfl,hm0⟩⟩
 ·have HF:=ι (c3d w p n c hn (by omega))
  have HM:=ι fun w1=>b7i w1 (.pointer none) [] (Or.inl ⟨rfl,rfl⟩) 1 (Or.inl ⟨rfl,rfl⟩)
  have hm0:mountsB ss=false:=b4g (by omega)
  clear hs hr h1
  go_enter Tryz.func27,Tryz.ntmps27
  go_wp2_with (first|(go_at_call 9;refine HF.out.mono ?_;rintro e w1 ⟨rfl,hb⟩;have B1:=ι hb;clear hb)|(go_at_call 11;refine(HM.out _).mono ?_;rintro e w2 ⟨rfl,hb⟩;have B2:=ι hb;clear hb))
  go_ret
  exact⟨a0b B1.out B2.out,Or.inl ⟨rfl,hm0⟩⟩
structure QAt (lo:Nat) (d f:Value) (w:World) (F:Nat→Prop) (st:St) (k:Nat):Prop where
 fi:FI d w F f st
 good:st.good k
 inF:∀b,F b→lo≤b∧b<w.heap.size
theorem QAt.later{lo:Nat}{d f:Value}{w w':World}{F:Nat→Prop}{st:St}{k:Nat}(h:QAt lo d f w F st k)(hb:Below w.heap.size w w'):QAt lo d f w' F st k :=
 ⟨(sfsIs d).later h.fi hb,h.good,fun b hF=>⟨(h.inF b hF).1,Nat.lt_of_lt_of_le (h.inF b hF).2 hb.size⟩⟩
theorem QAt.done{lo:Nat}{d f:Value}{w w':World}{F:Nat→Prop}{st:St}{k m:Nat}(h:QAt lo d f w F st k)(hlo:lo≤w.heap.size){r:Int×St}{e:Ending}(D:FDone (FI d) F f w r e w')(hg:r.2.good m):QAt lo d f w' (grow F w w') r.2 m :=
 ⟨D.2.1,hg,fun b hb=>by
  have s:=D.2.2.size
  rcases hb with hb|hb
  ·have:=h.inF b hb;omega
  ·omega⟩
theorem QAt.below{lo:Nat}{d f:Value}{w w':World}{F:Nat→Prop}{st:St}{k:Nat}(h:QAt lo d f w F st k)(hlo:lo≤w.heap.size){r:Int×St}{e:Ending}(D:FDone (FI d) F f w r e w'):Below lo w w':=D.2.2.below hlo fun b hb=>(h.inF b hb).1
theorem QAt.dk{lo:Nat}{d f:Value}{w:World}{F:Nat→Prop}{st:St}{k:Nat}(h:QAt lo d f w F st k)(hk:k≤880):Dk w d (nowL st) :=
 Or.inr ⟨F,st,sfsHas.code d w F f st h.fi,h.good.fine (by omega),(b0f st fun x hx=>(h.good.ws x hx).2).symm⟩
theorem d0a{ops:Array Oper}{rest:List Oper}{o:Oper}{a:Go.Act}{w:World}{Q:Exit→Go.Act→World→Prop}(hgd:o.guard=none)(x:Operand)(ho:o.op = .load 41 x)
  (b off:Nat) (hx:a.eval x = .pointer (some ⟨b,off,none⟩)) (y:AX) (hg:w.rangeAt b off y.c)
  (h:wpList Tryz.prog ops Q rest (a.put o.dst (.agg (actC y.a (.slice y.p1 y.n1 y.c1) (.slice y.p2 y.n2 y.c2)))) w):wpList Tryz.prog ops Q (o::rest) a w :=
 wpList_load_mid hgd 41 x ho b off hx y.c _ hg c2l rfl (by rw[d1z];rfl) h
end fs
namespace fs
set_option maxRecDepth 100000
open Go.ChangeShapes Go.WideShapes Go.ChangeAt Go.RowKit
open rows
open sec
open dsk (size_alloc a0q a1v)
open ly
open lk
theorem c5o{L:List (List Int)}{j:Nat}(h:j<L.length):cellsOf (L.take (j+1))=cellsOf (L.take j)++u8s L[j]:=by
 rw[List.take_succ_eq_append_getElem h,cellsOf,cellsOf,List.flatten_append,u8s,u8s,u8s,List.map_append];simp
theorem u8s_one(s:List Int):∀u∈u8s s,u.oneCell'=true:=a1q .u8 s
set_option maxRecDepth 100000 in
set_option maxHeartbeats 1600000 in
theorem limage(w:World)(d:Value)(L:List (List Int))(h:Dk w d L)(hl:L.length=65):Calls Tryz.prog 29 #[d] w fun e w'=>∃p c,e = .returned (.slice p 65 c)∧Rd w' 32 (.slice p 65 c) 65 (cellsOf L)∧Below w.heap.size w w':=by
 have HD:=ι h
 have HS:=ι h.secs.1
 have HL:=ι hl
 clear h hl
 go_enter Tryz.func29,Tryz.ntmps29
 go_wp2_with fail
 go_loopw [3,4] (fun lv iv wr=>∃(j:Nat) (p:Option Addr) (c:Nat),j≤65∧iv = .int .i64 (j:Int)∧lv = .slice p j c∧Hid (rows.Own wr w.heap.size 95 32 (.slice p j c) j (cellsOf (L.take j)))∧Hid (Below w.heap.size w wr)) (fun _ iv _=>65-(intOf iv).toNat)
 case atStart=>exact⟨0,none,0,by omega,rfl,rfl,ι (a2q _ _ _ _),ι (Below.refl _ _)⟩
 case round =>
  obtain⟨j,p,c,hj,rfl,rfl,HO,HB⟩:=hrel
  by_cases hjn:j<65
  ·have hjn1:(j:Int)<65:=by omega
   have hrd:=dread wr d L (j:Int) (HD.out.later HB.out) (WalkArith.wf_i64 (by omega))
   have HSJ:=ι (a1b HS.out (j:Int))
   have hjl:j<L.length:=by rw[HL.out];exact hjn
   have HSE:=ι (c5o hjl)
   rw[← c2k hjl] at HSE
   generalize secAt L (j:Int)=sj at *
   generalize (if 0≤(j:Int)∧(j:Int)<(L.length:Int) then (0:Int) else 1)=er at *
   have HRD:=ι hrd
   clear hrd hjl
   go_wp2_with (first
    | (go_at_call 59;refine HRD.out.mono ?_;rintro e w7 ⟨rfl,hb7⟩;have HB7:=ι hb7;clear hb7)
    | (refine a0i rfl (.tmp 5) (.tmp 15) rfl rfl w7.heap.size sj zero32 rfl rfl HSJ.out.1 (by decide) (a1i w7) ?_;intro w8 hA8 hB8 _;have A8:=ι hA8;have B8:=ι (a0b HB7.out ((a0a (Below.refl _ w7) _).trans hB8));clear hA8 hB8)
    | (refine a1w rfl (.tmp 5) rfl w7.heap.size rfl sj HSJ.out.1 A8.out ?_)
    | (refine a0q elem_secs (by decide) rfl (.tmp 18) rfl (u8s sj) rfl (by rw[u8s,List.length_map];exact HSJ.out.1) ?_)
    | (at_builtin;refine b3b elem_secs rfl (.tmp 17) (.tmp 19) rfl w.heap.size _ j _ rfl ((dsk.a0n HO.out B8.out).alloc _) _ 1 (u8s sj) rfl (a1v _ _ _ _ (by rw[u8s,List.length_map];exact HSJ.out.1)) (u8s_one sj) (by omega) (by rw[size_alloc];have h1:=HB.out.size;have h2:=B8.out.size;omega) ?_;intro pa ca wa ho hb;have HO9:=ι ho;have B9:=ι ((a0a (a0b HB.out B8.out) _).trans hb);clear ho hb))
   exact⟨⟨j+1,pa,ca,by omega,by go_num,rfl,by rw[HSE.out];exact HO9,B9⟩,by simp[intOf];omega⟩
  ·obtain rfl:j=65:=by omega
   have HO1:Hid (Rd wr 32 (.slice p 65 c) 65 (cellsOf L)):=ι (by have:=HO.out.rd;rw[List.take_of_length_le (by rw[HL.out];exact Nat.le_refl _)] at this;exact this)
   go_wp2_with fail
   go_ret
   exact⟨p,c,rfl,HO1.out,HB.out⟩
end fs
namespace fs
set_option maxRecDepth 100000
open Go.ChangeShapes Go.WideShapes Go.ChangeAt Go.RowKit
open rows
open sec
open ly
open pa
open lk
open al
theorem a5k{ss:List (List Int)}(hs:Secs ss)(s:ByteArray):∀z∈(readV ss s).1,0≤z∧z<256:=fun z hz=>by
 unfold readV at hz
 split at hz
 ·cases hz
 ·unfold readL at hz
  obtain⟨i,_,rfl⟩:=List.mem_map.1 hz
  unfold byteAt
  exact a1l (a9u hs _) _
end fs
end Go.Proofs.YtiaapfijbidgnaaGreatDoor
