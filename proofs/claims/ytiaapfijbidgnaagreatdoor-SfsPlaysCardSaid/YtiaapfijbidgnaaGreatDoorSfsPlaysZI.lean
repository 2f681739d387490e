/- What SfsPlays wants, part 35. -/
import Derived.Test.YtiaapfijbidgnaaGreatDoorSfsPlaysA
import Derived.Test.YtiaapfijbidgnaaGreatDoorSfsPlaysB
import Derived.Test.YtiaapfijbidgnaaGreatDoorSfsPlaysC
import Derived.Test.YtiaapfijbidgnaaGreatDoorSfsPlaysE
import Derived.Test.YtiaapfijbidgnaaGreatDoorSfsPlaysF
import Derived.Test.YtiaapfijbidgnaaGreatDoorSfsPlaysG
import Derived.Test.YtiaapfijbidgnaaGreatDoorSfsPlaysH
import Derived.Test.YtiaapfijbidgnaaGreatDoorSfsPlaysI
import Derived.Test.YtiaapfijbidgnaaGreatDoorSfsPlaysT
import Derived.Test.YtiaapfijbidgnaaGreatDoorSfsPlaysZE
import Derived.Test.YtiaapfijbidgnaaGreatDoorSfsPlaysZF
import Derived.Test.YtiaapfijbidgnaaGreatDoorSfsPlaysZG
import Derived.Test.YtiaapfijbidgnaaGreatDoorSfsPlaysZH
set_option linter.unusedVariables false
set_option linter.unusedSimpArgs false
namespace Go.Proofs.YtiaapfijbidgnaaGreatDoor
namespace fs
set_option maxRecDepth 100000
open Go.ChangeShapes Go.WideShapes Go.ChangeAt Go.RowKit
open rows
open sec
open dsk (St Wr.c CA)
open ly
open pa
open lk
open al
set_option maxRecDepth 100000 in
theorem c2v(w:World)(d:Value)(ss:List (List Int))(hd:Dk w d ss)(hl:0<ss.length)(hm:mountsB ss=true):Calls Tryz.prog 11 #[d] w fun e w'=>∃g,e = .returned (.tuple #[.pointer (some ⟨g,0,none⟩),.int .i64 0])∧FR w' g d∧w.heap.size≤g∧Below w.heap.size w w':=by
 have HM:=ι fun w' (hb:Below w.heap.size w w')=>b1d w' d ss (hd.later hb)
 rw[hm] at HM
 have HR:=ι (dread w d ss 0 hd (a0h (by omega)))
 rw[if_pos ⟨by omega,by omega⟩] at HR
 have HX:=ι (a1n hd.secs.1 0)
 obtain⟨pd,rfl⟩:=c0f hd
 generalize secAt ss 0=s at *
 clear hd hl hm
 go_enter Tryz.func11,Tryz.ntmps11
 go_wp2_with (first
  | (go_at_call 59;refine HR.out.mono ?_;rintro e w1 ⟨rfl,hb⟩;have B1:=ι hb;clear hb)
  | (refine a0j rfl (.tmp 4) (.tmp 10) rfl rfl w1.heap.size s zero32 rfl rfl HX.out.1 (by decide) (a1a w1) ?_;intro w2 hA hB _;have B2:=ι (a0a B1.out ((a0b (Below.refl _ w1) _).trans hB));clear hA hB)
  | (go_at_call 60;refine(HM.out _ B2.out).mono ?_;rintro e w3 ⟨rfl,hb⟩;have B3:=ι (a0a B2.out hb);clear hb))
 go_ret2
 exact⟨w3.heap.size,rfl,heap_alloc_new _ _,B3.out.size,a0b B3.out _⟩
set_option maxRecDepth 100000 in
theorem b6g(w:World)(d:Value)(ss:List (List Int))(hd:Dk w d ss)(x:Int)(h:(ss.length=0∧x=1)∨(0<ss.length∧mountsB ss=false∧x=8)):Calls Tryz.prog 11 #[d] w (Rt w (.tuple #[.pointer none,.int .i64 x])):=by
 have HM:=ι fun w' (hb:Below w.heap.size w w')=>b1d w' d ss (hd.later hb)
 have HR:=ι (dread w d ss 0 hd (a0h (by omega)))
 have HX:=ι (a1n hd.secs.1 0)
 obtain⟨pd,rfl⟩:=c0f hd
 generalize secAt ss 0=s at *
 rcases h with⟨h1,rfl⟩|⟨h1,h2,rfl⟩
 ·rw[if_neg (by omega)] at HR
  clear hd h1 HM
  go_enter Tryz.func11,Tryz.ntmps11
  go_wp2_with (first
   | (go_at_call 59;refine HR.out.mono ?_;rintro e w1 ⟨rfl,hb⟩;have B1:=ι hb;clear hb)
   | (refine a0j rfl (.tmp 4) (.tmp 10) rfl rfl w1.heap.size s zero32 rfl rfl HX.out.1 (by decide) (a1a w1) ?_;intro w2 hA hB _;have B2:=ι (a0a B1.out ((a0b (Below.refl _ w1) _).trans hB));clear hA hB))
  go_ret2
  exact⟨rfl,B2.out⟩
 ·rw[if_pos ⟨by omega,by omega⟩] at HR
  rw[h2] at HM
  clear hd h1 h2
  go_enter Tryz.func11,Tryz.ntmps11
  go_wp2_with (first
   | (go_at_call 59;refine HR.out.mono ?_;rintro e w1 ⟨rfl,hb⟩;have B1:=ι hb;clear hb)
   | (refine a0j rfl (.tmp 4) (.tmp 10) rfl rfl w1.heap.size s zero32 rfl rfl HX.out.1 (by decide) (a1a w1) ?_;intro w2 hA hB _;have B2:=ι (a0a B1.out ((a0b (Below.refl _ w1) _).trans hB));clear hA hB)
   | (go_at_call 60;refine(HM.out _ B2.out).mono ?_;rintro e w3 ⟨rfl,hb⟩;have B3:=ι (a0a B2.out hb);clear hb))
  go_ret2
  exact⟨rfl,B3.out⟩
def FI(d:Value)(w:World)(F:Nat→Prop)(f:Value)(st:St):Prop:=∃g G,f = .pointer (some ⟨g,0,none⟩)∧F g∧(∀b,G b→F b)∧FsAt w G g d st
theorem a6e{d:Value}{w w':World}{F G:Nat→Prop}{g:Nat}{r:Int×St}{e:Ending}(hF:F g)(hG:∀b,G b→F b)(h:PDone (fun b=>G b∧b<w.heap.size) g d w r e w'):FDone (FI d) F (.pointer (some ⟨g,0,none⟩)) w r e w' :=
 ⟨h.1,⟨g,_,rfl,Or.inl hF,fun b hb=>hb.imp (fun h=>hG b h.1) id,h.2.1⟩,h.2.2.mono fun b hb=>hG b hb.1⟩
theorem b0a{d:Value}{w:World}{F:Nat→Prop}{f:Value}{st:St}{k:Nat}(h:FI d w F f st)(hg:st.good k)(hk:k≤880):∃g,f = .pointer (some ⟨g,0,none⟩)∧FK w g d (nowL st):=by
 obtain⟨g,G,rfl,_,_,h⟩:=h
 exact⟨g,rfl,h.known hg (by omega)⟩
theorem sfsIs(d:Value):SfsIs (FI d) where
 kept:=fun w w' F f st ⟨g,G,h1,h2,h3,h4⟩ k=>⟨g,G,h1,h2,h3,⟨(k.2 g h4.row.lt h2).trans h4.row,dsk.b4h _ _ _ _ _ h4.code (k.mono h3),h4.apart⟩⟩
 mono:=fun w F G f st ⟨g,H,h1,h2,h3,h4⟩ hFG=>⟨g,H,h1,hFG _ h2,fun b hb=>hFG b (h3 b hb),h4⟩
 read:=fun w F f st k s h hg hk hm hs=>by
  obtain⟨g,rfl,hk⟩:=b0a h hg hk
  exact fread w g d _ s hk hm hs
 exist:=fun w F f st k s h hg hk hm hs=>by
  obtain⟨g,rfl,hk⟩:=b0a h hg hk
  exact fexists w g d _ s hk hm hs
 create:=fun w F f st k s ⟨g,G,h1,h2,h3,h4⟩ hg hk hm hs=>by
  subst h1
  exact(fcreate _ g d st w (fun b hb=>hb.2) (a2c h4) k hg (by omega) hm s hs).mono fun e w' hd=>a6e h2 h3 hd
 mkdir:=fun w F f st k s ⟨g,G,h1,h2,h3,h4⟩ hg hk hm hs=>by
  subst h1
  exact(fmkdir _ g d st w (fun b hb=>hb.2) (a2c h4) k hg (by omega) hm s hs).mono fun e w' hd=>a6e h2 h3 hd
 write:=fun w F f st k s off p m c b ⟨g,G,h1,h2,h3,h4⟩ hg hk hm hs ho hb hin hm3 hbb=>by
  subst h1
  exact(fwrite _ g d st w (fun b hb=>hb.2) (a2c h4) k hg (by omega) hm s hs off ho p m c b hb hm3 hbb).mono fun e w' hd=>a6e h2 h3 hd
 append:=fun w F f st k s p m c b ⟨g,G,h1,h2,h3,h4⟩ hg hk hm hs hb hin hm3 hbb=>by
  subst h1
  exact(fappend _ g d st w (fun b hb=>hb.2) (a2c h4) k hg (by omega) hm s hs p m c b hb hm3 hbb).mono fun e w' hd=>a6e h2 h3 hd
 trunc:=fun w F f st k s z ⟨g,G,h1,h2,h3,h4⟩ hg hk hm hs hz=>by
  subst h1
  exact(ftrunc _ g d st w (fun b hb=>hb.2) (a2c h4) k hg (by omega) hm s hs z hz).mono fun e w' hd=>a6e h2 h3 hd
 rename:=fun w F f st k s u ⟨g,G,h1,h2,h3,h4⟩ hg hk hm hs hu=>by
  subst h1
  exact(frename _ g d st w (fun b hb=>hb.2) (a2c h4) k hg (by omega) hm s u hs hu).mono fun e w' hd=>a6e h2 h3 hd
 unlink:=fun w F f st k s ⟨g,G,h1,h2,h3,h4⟩ hg hk hm hs=>by
  subst h1
  exact(funlink _ g d st w (fun b hb=>hb.2) (a2c h4) k hg (by omega) hm s hs).mono fun e w' hd=>a6e h2 h3 hd
theorem sfsHas:SfsHas FI where
 mount:=fun w F d st k h hg hk hm=>by
  have hsn:=b4n st fun x hx=>(hg.ws x hx).2
  have hl:(nowL st).length=st.safe.length:=c5h st
  unfold mountV at hm
  split at hm
  ·cases hm
  ·rename_i h0
   split at hm
   ·rename_i h1
    refine(c2v w d (nowL st) (Or.inr ⟨F,st,h,hg.fine (by omega),hsn.symm⟩) (by omega) h1).mono ?_
    rintro e w' ⟨g,rfl,hr,hgl,hb⟩
    have hgw:=hr.lt
    refine⟨_,rfl,⟨g,fun b=>F b∧b<w.heap.size,rfl,Or.inr ⟨hgl,hgw⟩,fun b hb=>Or.inl hb.1,⟨hr,lk.CA.later' (dsk.CA.narrow h) hb,fun hh=>by have:=hh.2;omega⟩⟩,hb⟩
   ·cases hm
 disk:=fun d w F f st k ⟨g,G,h1,h2,h3,h4⟩ hg hk=>by
  subst h1
  exact fdisk g d w h4.row
 code:=fun d w F f st ⟨g,G,h1,h2,h3,h4⟩=>b1z h4.code h3
theorem kn_size:(fileV (nowL stB) txA).2.1.size=2∧(fileV (nowL stB) txA).2.2=0:=by decide +kernel
theorem kn_four:stB.wait.length=4:=by decide +kernel
theorem knHas:KnHas FI where
 size:=fun d w F f h hm=>by
  obtain⟨g,rfl,hk⟩:=b0a h goodB (by omega)
  have h:=fsize w g d _ txA hk hm (by decide)
  rw[kn_size.1,kn_size.2] at h
  exact h
 wait:=fun d w F h=>by
  have h1:=dsk.cwaitingO w F d stB h (goodB.fine (by omega))
  rw[kn_four] at h1
  refine h1.mono ?_
  rintro e w' ⟨p,c,rfl,ho,hb⟩
  exact⟨p,c,rfl,ho.rd,(dsk.a5x ho).mono fun b hb=>hb.1,hb⟩
end fs
namespace fs
set_option maxRecDepth 100000
open Go.ChangeShapes Go.WideShapes Go.ChangeAt Go.RowKit
open rows
open sec
open dsk (St CA CodeDone)
open ly
open pa
open lk
open al
theorem c4s{d:Value}{w w1 w':World}{G:Nat→Prop}{g:Nat}{st:St}{r:Int×St}{e:Ending}(h:FsAt w G g d st)(hb:Below w.heap.size w w1)(hd:CodeDone CA G d w1 r e w'):PDone G g d w r e w':=by
 obtain⟨h1,h2,h3⟩:=hd
 have hlt:=h.row.lt
 refine⟨h1,⟨(h.row.later hb).touch h3 h.apart,b1z h2 (fun b hb' => ?_),fun hh => ?_⟩,(dsk.Touch.of_below hb).trans h3⟩
 ·rcases hb' with h|h
  ·exact Or.inl h
  ·exact Or.inr ⟨Nat.le_trans hb.size h.1,h.2⟩
 ·rcases hh with h1|h1
  ·exact h.apart h1
  ·omega
theorem und_pdF:Tryz.prog.underlying 26=some (.pointer 104):=by kernel_rfl
end fs
namespace fs
set_option maxRecDepth 100000
open Go.ChangeShapes Go.WideShapes Go.ChangeAt Go.RowKit
open rows
open sec
open dsk (wf64 InS St Wr.c CA cfail)
open ly
open pa
open lk
open al
def fDo7(st:St)(a:FAct):Int×St:=if a.kind=7 then (0,dsk.fail st a.bad) else fDo st a
structure BadIn (w:World) (a:FAct) (p2:Option Addr) (n2 c2:Nat):Prop where
 rd:Rd w 1 (.slice p2 n2 c2) n2 (i64s a.bad)
 few:n2≤30
 wf:∀x∈a.bad,wf64 x
theorem BadIn.later{w w':World}{a:FAct}{p2:Option Addr}{n2 c2:Nat}(h:BadIn w a p2 n2 c2)(k:Below w.heap.size w w'):BadIn w' a p2 n2 c2:=⟨h.rd.later k,h.few,h.wf⟩
theorem BadIn.len{w:World}{a:FAct}{p2:Option Addr}{n2 c2:Nat}(h:BadIn w a p2 n2 c2):a.bad.length≤30:=by
 have:=h.rd.cells
 have h2:=h.few
 simp[i64s] at this
 omega
theorem fail_fi(d:Value)(w w1:World)(F:Nat→Prop)(f:Value)(st:St)(k:Nat)(zs:List Int)(p:Option Addr)(q c:Nat)(h:FI d w F f st)(hg:st.good k)(hk:k≤880)(hb:Below w.heap.size w w1)(hr:Rd w1 1 (.slice p q c) q (i64s zs))(hin:InS (fun b=>¬F b) (.slice p q c))(hq:q≤50)(hwz:∀x∈zs,wf64 x) :
  Calls Tryz.prog 80 #[d,.slice p q c] w1 fun e w'=>e = .returned (.tuple #[])∧FDone (FI d) F f w (0,dsk.fail st zs) (.returned (.int .i64 0)) w':=by
 obtain⟨g,G,rfl,h2,h3,h4⟩:=h
 have h5:=a2c h4
 refine(cfail w1 _ d st p q c zs (lk.CA.later' h5.code hb) (hg.fine (by omega)) hr (fun a n c' hv hn hh=>hin a n c' hv hn (h3 _ hh.1)) hq hwz).mono ?_
 rintro e w' ⟨rfl,hc,ht⟩
 exact⟨rfl,a6e h2 h3 (c4s h5 hb ⟨rfl,hc,ht⟩)⟩
set_option maxRecDepth 100000 in
set_option maxHeartbeats 1600000 in
theorem c9m(d:Value)(w:World)(F:Nat→Prop)(f:Value)(st:St)(k:Nat)(hf:FI d w F f st)(hg:st.good k)(hk:k≤880)(hm:Mx w)(a:FAct)(p1:Option Addr)(n1 c1:Nat)(p2:Option Addr)(n2 c2:Nat)(ha:ActIn w a (.slice p1 n1 c1) (.slice p2 n2 c2))(hin:InS (fun x=>¬F x) (.slice p1 n1 c1))(hb:BadIn w a p2 n2 c2)(hbin:InS (fun x=>¬F x) (.slice p2 n2 c2)) :
  Calls Tryz.prog 22 #[f,.agg (actC a (.slice p1 n1 c1) (.slice p2 n2 c2))] w (FDone (FI d) F f w (fDo7 st a)):=by
 by_cases h7:a.kind=7
 ·rw[fDo7,if_pos h7]
  obtain⟨kd,pp,qq,nn,bb,bad⟩:=a
  simp only at h7
  subst h7
  have B1:=ι (a0b (Below.refl w.heap.size w) (.cells #[.int .i64 7,.string pp,.string qq,.int .i64 nn,.slice p1 n1 c1,.slice p2 n2 c2] 41))
  have HX:=ι hf
  have HDI:=ι fun w' (hb:Below w.heap.size w w')=>sfsHas.disk d w' F f st k ((sfsIs d).later hf hb) hg hk
  have HFA:=ι fun w' (hb':Below w.heap.size w w')=>fail_fi d w w' F f st k bad p2 n2 c2 hf hg hk hb' (hb.rd.later hb') hbin (by have:=hb.few;omega) hb.wf
  clear hf hg hm ha hin hb hbin
  go_enter Tryz.func22,Tryz.ntmps22
  go_wp2_with fail
  go_region_with (first|(go_at_call 30;refine(HDI.out _ (by first|exact B1.out|exact B1.out.drew)).mono ?_;rintro e w2 ⟨rfl,hw⟩;obtain rfl:=hw.symm)|(go_at_call 80;refine(HFA.out _ (by first|exact B1.out|exact B1.out.drew)).mono ?_;rintro e w3 ⟨rfl,hd⟩;have D3:=ι hd;clear hd))
  go_wp2_with fail
  all_goals
   go_ret
   exact D3.out
 ·rw[fDo7,if_neg h7]
  exact ldo_any (sfsIs d) w F f st k hf hg hk hm a p1 n1 c1 p2 n2 c2 ha hin h7
end fs
namespace fs
set_option maxRecDepth 100000
open Go.ChangeShapes Go.WideShapes Go.ChangeAt Go.RowKit
open rows
open sec
open dsk (St)
open ly
open pa
open lk
open al
theorem c4d{st:St}{k:Nat}(h:st.good k)(zs:List Int)(hl:zs.length≤50):(dsk.fail st zs).good k :=
 ⟨h.ss,h.n1,h.ws,h.es,h.wn,h.ln,hl,h.ep,⟨by show (0:Int)≤0;omega,by show (0:Int)≤(k:Int);omega⟩⟩
theorem c5j{st:St}{k:Nat}(h:st.good k)(a:FAct)(hb:∀z∈a.b,0≤z∧z<256)(hbad:a.bad.length≤30):(fDo7 st a).2.good (k+10):=by
 unfold fDo7
 split
 ·exact a2e (c4d h _ (by omega)) (by omega)
 ·exact d1k h a hb
end fs
namespace fs
set_option maxRecDepth 100000
open Go.ChangeShapes Go.WideShapes Go.ChangeAt Go.RowKit
open rows
open sec
open dsk (Keeps grow St)
open ly
open pa
open lk
open al
theorem c3f{w:World}{p:Option Addr}{n c:Nat}{ss:List (List Int)}(hs:Secs ss)(hr:Rd w 32 (.slice p n c) n (cellsOf ss)):ss.length=n:=by
 have:=hr.cells
 rw[a0y hs] at this
 omega
structure QAt (lo:Nat) (d f:Value) (w:World) (F:Nat→Prop) (st:St) (k:Nat):Prop where
 fi:FI d w F f st
 good:st.good k
 inF:∀b,F b→lo≤b∧b<w.heap.size
theorem QAt.later{lo:Nat}{d f:Value}{w w':World}{F:Nat→Prop}{st:St}{k:Nat}(h:QAt lo d f w F st k)(hb:Below w.heap.size w w'):QAt lo d f w' F st k :=
 ⟨(sfsIs d).later h.fi hb,h.good,fun b hF=>⟨(h.inF b hF).1,Nat.lt_of_lt_of_le (h.inF b hF).2 hb.size⟩⟩
theorem QAt.kept{lo:Nat}{d f:Value}{w w':World}{F:Nat→Prop}{st:St}{k:Nat}(h:QAt lo d f w F st k)(hb:Keeps F w w'):QAt lo d f w' F st k :=
 ⟨(sfsIs d).kept _ _ _ _ _ h.fi hb,h.good,fun b hF=>⟨(h.inF b hF).1,Nat.lt_of_lt_of_le (h.inF b hF).2 hb.1⟩⟩
theorem QAt.done{lo:Nat}{d f:Value}{w w':World}{F:Nat→Prop}{st:St}{k m:Nat}(h:QAt lo d f w F st k)(hlo:lo≤w.heap.size){r:Int×St}{e:Ending}(D:FDone (FI d) F f w r e w')(hg:r.2.good m):QAt lo d f w' (grow F w w') r.2 m :=
 ⟨D.2.1,hg,fun b hb=>by
  have s:=D.2.2.size
  rcases hb with hb|hb
  ·have:=h.inF b hb;omega
  ·omega⟩
theorem AX.badIn{W:World}{x:AX}(h:x.ok W)(hl:x.light):BadIn W x.a x.p2 x.n2 x.c2:=⟨h.bad,hl.2.2.2,h.bw⟩
theorem c5u{ops:Array Oper}{rest:List Oper}{o:Oper}{a:Go.Act}{w:World}{Q:Exit→Go.Act→World→Prop}(hgd:o.guard=none)(x:Operand)(ho:o.op = .load 41 x)
  (b off:Nat) (hx:a.eval x = .pointer (some ⟨b,off,none⟩)) (y:AX) (hg:w.rangeAt b off y.c)
  (h:wpList Tryz.prog ops Q rest (a.put o.dst (.agg (actC y.a (.slice y.p1 y.n1 y.c1) (.slice y.p2 y.n2 y.c2)))) w):wpList Tryz.prog ops Q (o::rest) a w :=
 wpList_load_mid hgd 41 x ho b off hx y.c _ hg b4d rfl (by rw[c1s];rfl) h
end fs
namespace fs
set_option maxRecDepth 100000
open Go.ChangeShapes Go.WideShapes Go.ChangeAt Go.RowKit
open rows
open sec
open dsk (wf64 St Wr RefIs RefDone barrier)
open ly
open pa
open lk
open al
theorem b3e(st:St)(i:Int)(s:List Int)(k id:Int):(dsk.writeR st i s k id).2.safe=st.safe:=by
 unfold dsk.writeR
 repeat' split
 all_goals rfl
theorem a4w:∀(ws:List Wr) (st:St),(doR st ws).2.safe=st.safe
 | [],st=>rfl
 | x::r,st=>by
  rw[doR]
  split
  ·exact b3e ..
  ·rw[a4w r,b3e]
theorem b0p(st:St):(barrier st).2.safe=st.safe:=by
 unfold barrier
 split<;>rfl
theorem c8b(st:St)(x y:Wr):(moveR st x y).2.safe=st.safe:=by
 unfold moveR
 repeat' split
 ·exact a4w ..
 ·rw[b0p,a4w]
 ·rw[a4w,b0p,a4w]
theorem b2g(st:St)(s:ByteArray)(off:Int)(b:List Int):(writeFV st s off b).2.safe.length=st.safe.length:=by
 unfold writeFV
 dsimp only
 repeat' split
 all_goals first|rfl|rw[a4w]
theorem fDo_len(st:St)(a:FAct):(fDo st a).2.safe.length=st.safe.length:=by
 unfold fDo
 repeat' split
 all_goals first
  | rfl
  | (
   unfold makeV
   repeat' split
   all_goals first|rfl|rw[a4w])
  | exact b2g ..
  | (
   unfold appendV
   split
   ·rfl
   ·exact b2g ..)
  | (
   unfold truncV
   repeat' split
   all_goals first|rfl|rw[a4w])
  | (
   unfold renameV
   dsimp only
   repeat' split
   all_goals first|rfl|rw[a4w]|rw[c8b])
  | (
   unfold unlinkV
   repeat' split
   all_goals first|rfl|rw[a4w])
set_option maxRecDepth 100000 in
set_option maxHeartbeats 1600000 in
theorem rappend65(S:Nat→Prop)(g:Nat)(st:St)(w:World)(h:RefIs w S g st)(k:Nat)(hg:st.good k)(hk:k+10≤900)(h65:st.safe.length=65)(s:ByteArray)(hsz:s.size≤100000)(p:Option Addr)(m c:Nat)(b:List Int)(hb0:Rd w 1 (.slice p m c) m (b.map (Value.int .u8)))(hm:m≤300)(hbb:∀x∈b,0≤x∧x<256) :
  Calls Tryz.prog 17 #[.pointer (some ⟨g,0,none⟩),.string s,.slice p m c] w (RefDone S g w (appendV st s b)):=by
 have HR:=ι h
 have HN:=ι (a5m h hg (by omega))
 have hsec:=a3t hg
 have hn1:=hg.n1
 have HF:=ι fun q c w' (hr:Rd w' 32 (.slice q st.safe.length c) st.safe.length (cellsOf (nowL st)))=>a7i q st.safe.length c (nowL st) w' hr hsec (by omega) s hsz
 have H4:=ι (a2j hsec s)
 have hfi:=a6b hsec s
 have hok:=a7l hsec (fileV (nowL st) s).1
 have HW:=ι fun(off:Int) (ho:wf64 off) w1 (hb:Below w.heap.size w w1)=>b2o S g st w1 k s off p m c b (a0u h hb) hg hk h65 hsz ho (hb0.later hb) hm hbb
 clear h65
 obtain⟨V,hV⟩:∃V,appendV st s b=V:=⟨_,rfl⟩
 rw[hV]
 unfold appendV at hV
 generalize hFE:fileV (nowL st) s=F at *
 obtain⟨n,x,er⟩:=F
 unfold fileT at HF
 simp only at hV HF H4 hfi hok
 generalize nowL st=L at *
 generalize st.safe.length=sl at *
 clear h hg hk hsz hsec hFE hb0 hbb
 by_cases he:er=0
 ·subst he
  rw[if_neg (by simp)] at hV
  subst hV
  obtain⟨hx1,hx2,hx3,hx4⟩:=hfi rfl
  rw[← hx1] at hok
  have HOK:=ι hok.size
  clear hfi hx1 hok
  go_enter Tryz.func17,Tryz.ntmps17
  go_wp2_with (first|(go_at_call 24;refine HN.out.mono ?_;rintro e w1 ⟨q,c,rfl,hr,hb⟩;have R1:=ι hr;have B1:=ι hb;clear hr hb)|(go_at_call 68;refine(HF.out _ _ _ R1.out).mono ?_;rintro e w2 ⟨rfl,hb⟩;have B2:=ι (a0a B1.out hb);clear hb)|(refine a0f rfl (.tmp 8) (.tmp 16) rfl rfl w2.heap.size x ino0 rfl rfl H4.out rfl (a0r w2) ?_;intro w3 hA hB _;have B3:=ι (a0a B2.out ((a0b (Below.refl _ w2) _).trans hB));have c1:=hA.cell1;clear hA hB)|(go_at_call 16;refine(HW.out _ HOK.out _ B3.out).mono ?_;rintro e w4 hd;have D4:=ι (a1o B3.out hd);obtain⟨rfl,_⟩:=hd))
  go_ret
  exact D4.out
 ·rw[if_pos he] at hV
  subst hV
  have heb:(er != 0)=true:=by simpa using he
  clear hfi hok
  go_enter Tryz.func17,Tryz.ntmps17
  go_wp2_with (first|(go_at_call 24;refine HN.out.mono ?_;rintro e w1 ⟨q,c,rfl,hr,hb⟩;have R1:=ι hr;have B1:=ι hb;clear hr hb)|(go_at_call 68;refine(HF.out _ _ _ R1.out).mono ?_;rintro e w2 ⟨rfl,hb⟩;have B2:=ι (a0a B1.out hb);clear hb)|(refine a0f rfl (.tmp 8) (.tmp 16) rfl rfl w2.heap.size x ino0 rfl rfl H4.out rfl (a0r w2) ?_;intro w3 hA hB _;have B3:=ι (a0a B2.out ((a0b (Below.refl _ w2) _).trans hB));clear hA hB))
  go_ret
  exact a0n HR.out B3.out
end fs
namespace fs
set_option maxRecDepth 100000
open Go.ChangeShapes Go.WideShapes Go.ChangeAt Go.RowKit
open rows
open sec
open ly
open lk
def NoFs(w:World)(f:Value):Prop:=f = .pointer none∨∃g,f = .pointer (some ⟨g,0,none⟩)∧w.cell? ⟨g,0,none⟩=some (.pointer none)∧g<w.heap.size
theorem NoFs.later{w w':World}{f:Value}(h:NoFs w f)(hb:Below w.heap.size w w'):NoFs w' f:=by
 rcases h with h|⟨g,h1,h2,h3⟩
 ·exact Or.inl h
 ·exact Or.inr ⟨g,h1,by rw[hb.cell (p:=⟨g,0,none⟩) h3];exact h2,Nat.lt_of_lt_of_le h3 hb.size⟩
theorem ndisk{w:World}{f:Value}(h:NoFs w f):Calls Tryz.prog 30 #[f] w fun e w'=>e = .returned (.pointer none)∧w'=w:=by
 rcases h with rfl|⟨g,rfl,hc,hl⟩
 ·go_enter Tryz.func30,Tryz.ntmps30
  go_wp2_with (go_at_call 87;refine(b5c _).mono ?_;rintro e w0 ⟨rfl,rfl⟩)
  go_ret
  exact⟨rfl,rfl⟩
 ·have HM:=ι (c1o g w hc)
  clear hc
  go_enter Tryz.func30,Tryz.ntmps30
  go_wp2_with (go_at_call 87;refine HM.out.mono ?_;rintro e w0 ⟨rfl,rfl⟩)
  go_ret
  exact⟨rfl,rfl⟩
end fs
namespace fs
set_option maxRecDepth 100000
open Go.ChangeShapes Go.WideShapes Go.ChangeAt Go.RowKit
open rows
open sec
open dsk (St Wr.c RefIs)
open ly
open pa
open lk
open al
structure PAt (lo:Nat) (d f:Value) (g:Nat) (w:World) (F S:Nat→Prop) (st:St) (k:Nat):Prop where
 q:QAt lo d f w F st k
 ref:RefIs w S g st
 inS:∀b,S b→lo≤b∧b<w.heap.size
 apart:∀b,F b→¬S b
 len:st.safe.length=65
theorem b0t{w:World}{S:Nat→Prop}{g:Nat}{st:St}(h:RefIs w S g st):S g:=by
 obtain⟨vs,vw,vl,vb,h⟩:=h
 exact h.own
theorem PAt.later{lo:Nat}{d f:Value}{g:Nat}{w w':World}{F S:Nat→Prop}{st:St}{k:Nat}(h:PAt lo d f g w F S st k)(hb:Below w.heap.size w w'):PAt lo d f g w' F S st k :=
 ⟨h.q.later hb,a0u h.ref hb,fun b hS=>⟨(h.inS b hS).1,Nat.lt_of_lt_of_le (h.inS b hS).2 hb.size⟩,h.apart,h.len⟩
theorem b7e{w:World}{sz:Nat}{v:Value}{n:Nat}{cs:List Value}(h:Rd w sz v n cs):∃p c,v = .slice p n c:=by
 rcases h with⟨p,c,h1,h2,_⟩|⟨b,o,c,h1,_⟩
 ·exact⟨p,c,by rw[h1,h2]⟩
 ·exact⟨_,c,h1⟩
theorem ld_act6{ops:Array Oper}{S:World→Prop}{op:Oper}{a:Go.Act}(hw:Region.wanted op (yielded ops a.tmps)=true)(x:Operand)(ho:op.op = .load 41 x)
  (b o:Nat) (hx:a.eval x = .pointer (some ⟨b,o,none⟩)) (y:AX) (hS:∀w,S w→w.rangeAt b o y.c):YieldsIf Tryz.prog ops S op (.agg (actC y.a (.slice y.p1 y.n1 y.c1) (.slice y.p2 y.n2 y.c2))) a :=
 yieldsIf_load_mid hw _ x ho b o hx y.c _ hS b4d rfl (by rw[c1s];rfl)
theorem c7p:Tryz.prog.underlying 52=some (.slice 143):=by kernel_rfl
end fs
namespace fs
set_option maxRecDepth 100000
open Go.ChangeShapes Go.WideShapes Go.ChangeAt Go.RowKit
open rows
open sec
open ly
open lk
open al
theorem nmade{w:World}{f:Value}(h:NoFs w f):Calls Tryz.prog 87 #[f] w fun e w'=>e = .returned (.bool false)∧w=w':=by
 rcases h with rfl|⟨g,rfl,hc,hl⟩
 ·exact b5c w
 ·exact c1o g w hc
set_option maxRecDepth 100000 in
theorem nplace{w:World}{f:Value}(h:NoFs w f)(s:ByteArray):Calls Tryz.prog 93 #[f,.string s] w (Rt w (.tuple #[aggP plc0,.int .i64 1])):=by
 have A1:=ι (a2m w)
 have B1:=ι (a0b (Below.refl w.heap.size w) (.cells plc0.c 153))
 have HM:=ι (nmade (h.later B1.out))
 clear h
 go_enter Tryz.func93,Tryz.ntmps93
 go_wp2_with (first
  | (go_at_call 87;refine HM.out.mono ?_;rintro e wm ⟨rfl,hwm⟩;obtain rfl:=hwm)
  | (refine a1b rfl (.tmp 4) (.tmp 14) rfl rfl w.heap.size plc0 plc0 rfl rfl A1.out ?_;intro w5 hA hB;have A5:=ι hA;have B5:=ι (B1.out.trans hB);clear hA hB))
 exact a6n rfl w.heap.size plc0 (.int .i64 1) rfl rfl A5.out rfl ⟨rfl,B5.out⟩
set_option maxRecDepth 100000 in
theorem nfile{w:World}{f:Value}(h:NoFs w f)(s:ByteArray):Calls Tryz.prog 88 #[f,.string s] w (Rt w (.tuple #[.int .i64 0,aggI ino0,.int .i64 1])):=by
 have A1:=ι (a0r w)
 have B1:=ι (a0b (Below.refl w.heap.size w) (.cells #[.int .i64 0,.int .i64 0,.int .i64 0,.int .i64 0,.int .i64 0,.int .i64 0] 119))
 have HM:=ι (nmade (h.later B1.out))
 clear h
 go_enter Tryz.func88,Tryz.ntmps88
 go_wp2_with (first
  | (go_at_call 87;refine HM.out.mono ?_;rintro e wm ⟨rfl,hwm⟩;obtain rfl:=hwm)
  | (refine a0f rfl (.tmp 5) (.tmp 13) rfl rfl w.heap.size ino0 ino0 rfl rfl rfl rfl A1.out ?_;intro w5 hA hB _;have A5:=ι hA;have B5:=ι (B1.out.trans hB);clear hA hB))
 exact a5l rfl w.heap.size ino0 (.int .i64 0) (.int .i64 1) rfl rfl rfl rfl A5.out rfl ⟨rfl,B5.out⟩
set_option maxRecDepth 100000 in
theorem nadd{w:World}{f:Value}(h:NoFs w f)(s:ByteArray)(k:Int):Calls Tryz.prog 120 #[f,.string s,.int .i64 k] w (Rt w (.int .i64 1)):=by
 have HL:=ι (nplace h s)
 clear h
 go_enter Tryz.func120,Tryz.ntmps120
 go_wp2_with (first
  | (go_at_call 93;refine HL.out.mono ?_;rintro e w1 ⟨rfl,hb⟩;have B1:=ι hb;clear hb)
  | (refine a1b rfl (.tmp 7) (.tmp 16) rfl rfl w1.heap.size plc0 plc0 rfl rfl (a2m w1) ?_;intro w2 hA hB;have B2:=ι (a0a B1.out ((a0b (Below.refl _ w1) _).trans hB));clear hA hB))
 go_ret
 exact⟨rfl,B2.out⟩
theorem ncreate{w:World}{f:Value}(h:NoFs w f)(s:ByteArray):Calls Tryz.prog 51 #[f,.string s] w (Rt w (.int .i64 1)):=by
 have HL:=ι (nadd h s 1)
 clear h
 go_enter Tryz.func51,Tryz.ntmps51
 go_wp2_with (go_at_call 120;refine HL.out.mono ?_;rintro e w1 ⟨rfl,hb⟩;have B1:=ι hb;clear hb)
 go_ret
 exact⟨rfl,B1.out⟩
theorem nmkdir{w:World}{f:Value}(h:NoFs w f)(s:ByteArray):Calls Tryz.prog 77 #[f,.string s] w (Rt w (.int .i64 1)):=by
 have HL:=ι (nadd h s 2)
 clear h
 go_enter Tryz.func77,Tryz.ntmps77
 go_wp2_with (go_at_call 120;refine HL.out.mono ?_;rintro e w1 ⟨rfl,hb⟩;have B1:=ι hb;clear hb)
 go_ret
 exact⟨rfl,B1.out⟩
set_option maxRecDepth 100000 in
theorem nunlink{w:World}{f:Value}(h:NoFs w f)(s:ByteArray):Calls Tryz.prog 55 #[f,.string s] w (Rt w (.int .i64 1)):=by
 have HL:=ι (nplace h s)
 clear h
 go_enter Tryz.func55,Tryz.ntmps55
 go_wp2_with (first
  | (go_at_call 93;refine HL.out.mono ?_;rintro e w1 ⟨rfl,hb⟩;have B1:=ι hb;clear hb)
  | (refine a1b rfl (.tmp 5) (.tmp 11) rfl rfl w1.heap.size plc0 plc0 rfl rfl (a2m w1) ?_;intro w2 hA hB;have B2:=ι (a0a B1.out ((a0b (Below.refl _ w1) _).trans hB));clear hA hB))
 go_ret
 exact⟨rfl,B2.out⟩
set_option maxRecDepth 100000 in
theorem nwrite{w:World}{f:Value}(h:NoFs w f)(s:ByteArray)(z:Int)(v:Value):Calls Tryz.prog 52 #[f,.string s,.int .i64 z,v] w (Rt w (.int .i64 1)):=by
 have HL:=ι (nfile h s)
 clear h
 go_enter Tryz.func52,Tryz.ntmps52
 go_wp2_with (first
  | (go_at_call 88;refine HL.out.mono ?_;rintro e w1 ⟨rfl,hb⟩;have B1:=ι hb;clear hb)
  | (refine a0f rfl (.tmp 10) (.tmp 17) rfl rfl w1.heap.size ino0 ino0 rfl rfl rfl rfl (a0r w1) ?_;intro w2 hA hB _;have B2:=ι (a0a B1.out ((a0b (Below.refl _ w1) _).trans hB));clear hA hB))
 go_ret
 exact⟨rfl,B2.out⟩
set_option maxRecDepth 100000 in
theorem nappend{w:World}{f:Value}(h:NoFs w f)(s:ByteArray)(v:Value):Calls Tryz.prog 78 #[f,.string s,v] w (Rt w (.int .i64 1)):=by
 have HL:=ι (nfile h s)
 clear h
 go_enter Tryz.func78,Tryz.ntmps78
 go_wp2_with (first
  | (go_at_call 88;refine HL.out.mono ?_;rintro e w1 ⟨rfl,hb⟩;have B1:=ι hb;clear hb)
  | (refine a0f rfl (.tmp 8) (.tmp 15) rfl rfl w1.heap.size ino0 ino0 rfl rfl rfl rfl (a0r w1) ?_;intro w2 hA hB _;have B2:=ι (a0a B1.out ((a0b (Below.refl _ w1) _).trans hB));clear hA hB))
 go_ret
 exact⟨rfl,B2.out⟩
set_option maxRecDepth 100000 in
theorem ntrunc{w:World}{f:Value}(h:NoFs w f)(s:ByteArray)(z:Int):Calls Tryz.prog 79 #[f,.string s,.int .i64 z] w (Rt w (.int .i64 1)):=by
 have HL:=ι (nfile h s)
 clear h
 go_enter Tryz.func79,Tryz.ntmps79
 go_wp2_with (first
  | (go_at_call 88;refine HL.out.mono ?_;rintro e w1 ⟨rfl,hb⟩;have B1:=ι hb;clear hb)
  | (refine a0f rfl (.tmp 8) (.tmp 15) rfl rfl w1.heap.size ino0 ino0 rfl rfl rfl rfl (a0r w1) ?_;intro w2 hA hB _;have B2:=ι (a0a B1.out ((a0b (Below.refl _ w1) _).trans hB));clear hA hB))
 go_ret
 exact⟨rfl,B2.out⟩
theorem nrename{w:World}{f:Value}(h:NoFs w f)(s u:ByteArray):Calls Tryz.prog 32 #[f,.string s,.string u] w (Rt w (.int .i64 1)):=by
 have HM:=ι (nmade h)
 clear h
 go_enter Tryz.func32,Tryz.ntmps32
 go_wp2_with (go_at_call 87;refine HM.out.mono ?_;rintro e wm ⟨rfl,hwm⟩;obtain rfl:=hwm)
 go_ret
 exact⟨rfl,Below.refl _ _⟩
theorem nexists{w:World}{f:Value}(h:NoFs w f)(s:ByteArray):Calls Tryz.prog 54 #[f,.string s] w (Rt w (.bool false)):=by
 have HM:=ι (nmade h)
 clear h
 go_enter Tryz.func54,Tryz.ntmps54
 go_wp2_with (go_at_call 87;refine HM.out.mono ?_;rintro e wm ⟨rfl,hwm⟩;obtain rfl:=hwm)
 go_ret
 exact⟨rfl,Below.refl _ _⟩
set_option maxRecDepth 100000 in
theorem nread{w:World}{f:Value}(h:NoFs w f)(s:ByteArray):Calls Tryz.prog 31 #[f,.string s] w (Rt w (.tuple #[.slice none 0 0,.int .i64 1])):=by
 have HL:=ι (nfile h s)
 clear h
 go_enter Tryz.func31,Tryz.ntmps31
 go_wp2_with (first
  | (go_at_call 88;refine HL.out.mono ?_;rintro e w1 ⟨rfl,hb⟩;have B1:=ι hb;clear hb)
  | (refine a0f rfl (.tmp 7) (.tmp 19) rfl rfl w1.heap.size ino0 ino0 rfl rfl rfl rfl (a0r w1) ?_;intro w2 hA hB _;have B2:=ι (a0a B1.out ((a0b (Below.refl _ w1) _).trans hB));clear hA hB))
 go_ret2
 exact⟨rfl,B2.out⟩
set_option maxRecDepth 100000 in
theorem nsize{w:World}{f:Value}(h:NoFs w f)(s:ByteArray):Calls Tryz.prog 53 #[f,.string s] w (Rt w (.tuple #[.int .i64 0,.int .i64 1])):=by
 have HL:=ι (nfile h s)
 clear h
 go_enter Tryz.func53,Tryz.ntmps53
 go_wp2_with (first
  | (go_at_call 88;refine HL.out.mono ?_;rintro e w1 ⟨rfl,hb⟩;have B1:=ι hb;clear hb)
  | (refine a0f rfl (.tmp 7) (.tmp 14) rfl rfl w1.heap.size ino0 ino0 rfl rfl rfl rfl (a0r w1) ?_;intro w2 hA hB _;have B2:=ι (a0a B1.out ((a0b (Below.refl _ w1) _).trans hB));have c1:=hA.cell1;clear hA hB))
 go_ret2
 exact⟨rfl,B2.out⟩
end fs
namespace fs
set_option maxRecDepth 100000
open Go.ChangeShapes Go.WideShapes Go.ChangeAt Go.RowKit
open rows
open sec
open dsk (St)
open ly
open pa
open lk
open al
theorem c7g{ss:List (List Int)}(hs:Secs ss)(s:ByteArray):(fileV ss s).2.1.size=((readV ss s).1.length:Int)∧(fileV ss s).2.2=(readV ss s).2:=by
 by_cases he:(fileV ss s).2.2=0
 ·have hr:readV ss s=(readL ss (fileV ss s).2.1,0):=by unfold readV;rw[if_neg (by simpa using he)]
  obtain⟨z,h1,h2⟩:=b9j hs s he
  have h3:=(a5k hs z h2).1
  rw[hr,he,h1]
  refine⟨?_,rfl⟩
  show _=((readL ss (inoAt ss z)).length:Int)
  rw[readL,List.length_map,List.length_range]
  omega
 ·have hr:readV ss s=([],(fileV ss s).2.2):=by unfold readV;rw[if_pos he]
  rw[hr]
  refine⟨?_,rfl⟩
  unfold fileV at he ⊢
  split
  ·rfl
  ·split
   ·rfl
   ·rename_i h1 h2
    rw[if_neg h1,if_neg h2] at he
    exact absurd rfl he
theorem lnumS(z:Int)(w:World):Calls Tryz.prog 13 #[.int .i64 z] w fun e w'=>e = .returned (.int .i64 z)∧w'=w:=by
 go_enter Tryz.func13,Tryz.ntmps13
 go_wp2
 go_ret
 exact⟨rfl,rfl⟩
theorem b8v{ss:List (List Int)}(hs:Secs ss)(s:ByteArray):∀z∈(readV ss s).1,0≤z∧z<256:=fun z hz=>by
 unfold readV at hz
 split at hz
 ·cases hz
 ·unfold readL at hz
  obtain⟨i,_,rfl⟩:=List.mem_map.1 hz
  unfold byteAt
  exact a1c (b2h hs _) _
set_option maxRecDepth 100000 in
set_option maxHeartbeats 3200000 in
theorem slooks(d:Value)(w:World)(F:Nat→Prop)(f:Value)(st:St)(k:Nat)(hf:FI d w F f st)(hg:st.good k)(hk:k≤880)(hm:Mx w)(q:Option Addr)(n c:Nat)(hr:Rd w 32 (.slice q n c) n (cellsOf (nowL st)))(h65:n=65)(s:ByteArray)(hsz:s.size≤100000) :
  Calls Tryz.prog 23 #[f,.slice q n c,.string s] w (Rt w (.bool true)):=by
 have hs:=a3t hg
 obtain⟨g,rfl,hK⟩:=b0a hf hg hk
 have HR:=ι (fread w g d (nowL st) s hK hm hsz)
 have HRR:=ι fun w' (hb:Below w.heap.size w w')=>c6q q n c (nowL st) w' (hr.later hb) hs h65 s hsz
 have HSZ:=ι fun w' (hb:Below w.heap.size w w')=>fsize w' g d (nowL st) s (hK.later hb) (hm.later hb) hsz
 have HL:=ι fun w' (hb:Below w.heap.size w w')=>a7g q n c (nowL st) w' (hr.later hb) hs (by omega) s hsz
 have HX:=ι fun w' (hb:Below w.heap.size w w')=>fexists w' g d (nowL st) s (hK.later hb) (hm.later hb) hsz
 have HSM:=ι (b8v hs s)
 obtain⟨e1,e2⟩:=c7g hs s
 rw[e1,e2] at HSZ
 generalize readV (nowL st) s=rd at *
 obtain⟨b,er⟩:=rd
 generalize lookV (nowL st) (bys s)=lv at *
 obtain⟨z,el⟩:=lv
 unfold lookT at HL
 simp only at HR HRR HSZ HL HX HSM
 have HNU:=ι fun z w'=>lnumS z w'
 clear hf hg hm hr hs hK e1 e2 h65
 have hself:((strOfNums b).toList == (strOfNums b).toList)=true:=by simp
 have hlb:(decide (el=0) == (el == 0))=true:=by
  by_cases h:el=0<;>simp[h]
 have her:(er == er)=true:=by simp
 have hln:((b.length:Int) == (b.length:Int))=true:=by simp
 go_enter Tryz.func23,Tryz.ntmps23
 go_upto_region 5 with(first
  | (go_at_call 31;refine HR.out.mono ?_;rintro e w1 ⟨p1,n1,c1,rfl,hn1,hr1,hb⟩;have B1:=ι hb;have R1:=ι hr1;subst hn1;clear hb hr1)
  | (go_at_call 81;refine(HRR.out _ B1.out).mono ?_;rintro e w2 ⟨p2,n2,c2,rfl,hn2,hr2,hb⟩;have B2:=ι (a0a B1.out hb);have R12:=ι (R1.out.later hb);have R2:=ι hr2;subst hn2;clear hb hr2)
  | (go_at_call 53;refine(HSZ.out _ B2.out).mono ?_;rintro e w3 ⟨rfl,hb⟩;have B3:=ι (a0a B2.out hb);have R13:=ι (R12.out.later hb);have R23:=ι (R2.out.later hb);clear hb)
  | (go_at_call 82;refine(HL.out _ B3.out).mono ?_;rintro e w4 ⟨rfl,hb⟩;have B4:=ι (a0a B3.out hb);have hcv1:=b0m (R13.out.later hb) HSM.out;have hcv2:=b0m (R23.out.later hb) HSM.out;have HX4:=ι (HX.out _ B4.out);clear hb))
 generalize strOfNums b=sb at *
 generalize b.length=bl at *
 clear R1 R12 R13 R2 R23 HR HRR HSZ HL HSM
 go_wp2_with (first
  | (go_at_call 13;refine(HNU.out _ _).mono ?_;rintro e w6 ⟨rfl,hw⟩;obtain rfl:=hw.symm)
  | (go_at_call 54;refine HX4.out.mono ?_;rintro e w5 ⟨rfl,hb⟩;have B5:=ι (a0a B4.out hb);clear hb))
 go_ret
 exact⟨by simp,B5.out⟩
end fs
namespace fs
set_option maxRecDepth 100000
open Go.ChangeShapes Go.WideShapes Go.ChangeAt Go.RowKit
open rows
open sec
open dsk (size_alloc)
open ly
open lk
open al
theorem c4e(w:World):(binOp .neq 26 (.pointer none) (.pointer none)).run Tryz.prog w = .ok (.bool false) w:=by
 have h:∀d:Nat,(Op.equalIn (d+1) 26 (.pointer none) (.pointer none)).run Tryz.prog w = .ok true w:=fun d=>by
  simp[Op.equalIn,run_underlying und_pdF]
 simp only[binOp]
 simp[Op.equal,Op.maxDepth,h 9999]
theorem c6v(w:World):NoFs (w.alloc (.cells #[.pointer none,.pointer none] 77)) (.pointer (some ⟨w.heap.size,0,none⟩)) :=
 Or.inr ⟨w.heap.size,rfl,by rw[World.cell?_alloc_new];rfl,by rw[size_alloc];omega⟩
set_option maxRecDepth 100000 in
set_option maxHeartbeats 3200000 in
theorem ndo{w:World}{f:Value}(h:NoFs w f)(k:Nat)(hk:k<7)(s u:ByteArray)(z:Int)(v1 v2:Value):Calls Tryz.prog 22 #[f,.agg #[.int .i64 (k:Int),.string s,.string u,.int .i64 z,v1,v2]] w (Rt w (.int .i64 1)):=by
 have B1:=ι (a0b (Below.refl w.heap.size w) (.cells #[.int .i64 (k:Int),.string s,.string u,.int .i64 z,v1,v2] 41))
 have HN:=ι (h.later B1.out)
 clear h
 match k,hk with
 | 0,_ =>
  go_enter Tryz.func22,Tryz.ntmps22
  go_wp2_with (go_at_call 51;refine(ncreate HN.out _).mono ?_;rintro e w2 ⟨rfl,hb⟩;have B2:=ι (a0a B1.out hb);clear hb)
  go_ret
  exact⟨rfl,B2.out⟩
 | 1,_ =>
  go_enter Tryz.func22,Tryz.ntmps22
  go_wp2_with (go_at_call 77;refine(nmkdir HN.out _).mono ?_;rintro e w2 ⟨rfl,hb⟩;have B2:=ι (a0a B1.out hb);clear hb)
  go_ret
  exact⟨rfl,B2.out⟩
 | 2,_ =>
  go_enter Tryz.func22,Tryz.ntmps22
  go_wp2_with (go_at_call 52;refine(nwrite HN.out _ _ _).mono ?_;rintro e w2 ⟨rfl,hb⟩;have B2:=ι (a0a B1.out hb);clear hb)
  go_ret
  exact⟨rfl,B2.out⟩
 | 3,_ =>
  go_enter Tryz.func22,Tryz.ntmps22
  go_wp2_with (go_at_call 78;refine(nappend HN.out _ _).mono ?_;rintro e w2 ⟨rfl,hb⟩;have B2:=ι (a0a B1.out hb);clear hb)
  go_ret
  exact⟨rfl,B2.out⟩
 | 4,_ =>
  go_enter Tryz.func22,Tryz.ntmps22
  go_wp2_with (go_at_call 79;refine(ntrunc HN.out _ _).mono ?_;rintro e w2 ⟨rfl,hb⟩;have B2:=ι (a0a B1.out hb);clear hb)
  go_ret
  exact⟨rfl,B2.out⟩
 | 5,_ =>
  go_enter Tryz.func22,Tryz.ntmps22
  go_wp2_with (go_at_call 32;refine(nrename HN.out _ _).mono ?_;rintro e w2 ⟨rfl,hb⟩;have B2:=ι (a0a B1.out hb);clear hb)
  go_ret
  exact⟨rfl,B2.out⟩
 | 6,_ =>
  go_enter Tryz.func22,Tryz.ntmps22
  go_wp2_with (go_at_call 55;refine(nunlink HN.out _).mono ?_;rintro e w2 ⟨rfl,hb⟩;have B2:=ι (a0a B1.out hb);clear hb)
  go_ret
  exact⟨rfl,B2.out⟩
set_option maxRecDepth 100000 in
set_option maxHeartbeats 6400000 in
theorem b6d(w:World):Calls Tryz.prog 14 #[] w (Rt w (.bool true)):=by
 have HNU:=ι fun z w'=>lnumS z w'
 have hq:=fun w'=>c4e w'
 go_enter Tryz.func14,Tryz.ntmps14
 go_wp2_with fail
 go_loopw [1,2] (fun fv iv wr=>∃(i:Nat) (f:Value),i≤2∧iv = .int .i64 (i:Int)∧fv=f∧Hid (NoFs wr f)∧Hid (Below w.heap.size w wr)) (fun _ iv _=>2-(intOf iv).toNat)
 case atStart=>exact⟨0,_,by omega,rfl,rfl,ι (Or.inl rfl),ι (Below.refl _ _)⟩
 case round =>
  obtain⟨i,f,hi,rfl,rfl,HF,HB⟩:=hrel
  by_cases hin:i<2
  ·have hin1:(i:Int)<2:=by omega
   obtain⟨wq,hwq⟩:∃x,x=wr:=⟨_,rfl⟩
   rw[← hwq] at HF HB
   have HQ:Hid (Below wq.heap.size wq wr):=ι (by rw[hwq];exact Below.refl _ _)
   clear hwq
   go_wp2_with fail
   go_loopw [3] (fun kv wr=>∃(k:Nat),k≤7∧kv = .int .i64 (k:Int)∧Hid (Below wq.heap.size wq wr)) (fun kv _=>7-(intOf kv).toNat)
   case atStart=>exact⟨0,by omega,rfl,HQ⟩
   case round =>
    clear HQ
    obtain⟨k,hk,rfl,HK⟩:=hrel
    by_cases hkn:k<7
    ·have hkn1:(k:Int)<7:=by omega
     have HD:=ι fun s u z v1 v2=>ndo (HF.out.later HK.out) k hkn s u z v1 v2
     go_wp2_with (first
      | (go_at_call 22;refine(HD.out _ _ _ _ _).mono ?_;rintro e w2 ⟨rfl,hb⟩;have B2:=ι (a0a HK.out hb);clear hb)
      | (go_at_call 13;refine(HNU.out _ _).mono ?_;rintro e w6 ⟨rfl,hw⟩;obtain rfl:=hw.symm))
     exact⟨⟨k+1,by omega,by go_num,B2⟩,by simp[intOf];omega⟩
    ·obtain rfl:k=7:=by omega
     have HF1:=ι (HF.out.later HK.out)
     go_wp2_with (first
      | (go_at_call 13;refine(HNU.out _ _).mono ?_;rintro e w6 ⟨rfl,hw⟩;obtain rfl:=hw.symm)
      | (go_at_call 31;refine(nread HF1.out _).mono ?_;rintro e w2 ⟨rfl,hb⟩;have B2:=ι hb;have HF2:=ι (HF1.out.later hb);clear hb)
      | (go_at_call 53;refine(nsize HF2.out _).mono ?_;rintro e w3 ⟨rfl,hb⟩;have B3:=ι (a0a B2.out hb);have HF3:=ι (HF2.out.later hb);clear hb)
      | (go_at_call 30;refine(ndisk HF3.out).mono ?_;rintro e wd ⟨rfl,hw⟩;obtain rfl:=hw.symm)
      | (go_at_call 54;refine(nexists HF3.out _).mono ?_;rintro e w4 ⟨rfl,hb⟩;have B4:=ι (a0a B3.out hb);clear hb))
     exact⟨⟨i+1,_,by omega,by go_num,rfl,ι (c6v _),ι (a0a HB.out (a0a HK.out (a0b B4.out _)))⟩,by simp[intOf];omega⟩
  ·obtain rfl:i=2:=by omega
   go_wp2_with fail
   go_ret
   exact⟨rfl,HB.out⟩
end fs
namespace fs
set_option maxRecDepth 100000
open Go.ChangeShapes Go.WideShapes Go.ChangeAt Go.RowKit
open rows
open sec
open dsk (Keeps grow St RefIs b2z)
open ly
open pa
open lk
open al
theorem PAt.stepR{lo:Nat}{d f:Value}{g:Nat}{w w1 w2:World}{F S:Nat→Prop}{st:St}{k m:Nat}(h:PAt lo d f g w F S st k)(hlo:lo≤w.heap.size){r:Int×St}{e:Ending}(R:RefIs w1 (grow S w w1) g r.2)(T:dsk.Touch (· = g) w w1)(D:FDone (FI d) F f w1 r e w2)(hg:r.2.good m)(hl:r.2.safe.length=65):PAt lo d f g w2 (grow F w1 w2) (grow S w w1) r.2 m:=by
 have s1:=T.size
 have s2:=D.2.2.size
 have hgS:=h.inS g (b0t h.ref)
 have K:Keeps F w w1:=T.keeps fun b hF hb=>by
  subst hb
  exact h.apart _ hF (b0t h.ref)
 refine⟨(h.q.kept K).done (by omega) D hg,b2z R (D.2.2.keeps fun b hS hF => ?_),fun b hb => ?_,fun b hF hS => ?_,hl⟩
 ·rcases hS with hS|hS
  ·exact h.apart b hF hS
  ·have:=(h.q.inF b hF).2;omega
 ·rcases hb with hb|hb
  ·have:=h.inS b hb;omega
  ·omega
 ·rcases hF with hF|hF
  ·rcases hS with hS|hS
   ·exact h.apart b hF hS
   ·have:=(h.q.inF b hF).2;omega
  ·rcases hS with hS|hS
   ·have:=(h.inS b hS).2;omega
   ·omega
end fs
namespace fs
set_option maxRecDepth 100000
open Go.ChangeShapes Go.WideShapes Go.ChangeAt Go.RowKit
open rows
open sec
open dsk (a0c a0z Keeps grow St Wr.c CA st0 a8g c1p RefIs RefDone b7s c0k a0l a3m)
open ly
open pa
open lk
open al
theorem b5x{w:World}{S:Nat→Prop}{g:Nat}{st:St}(h:RefIs w S g st){k:Nat}(hg:st.good k)(hk:k≤880):Calls Tryz.prog 12 #[.pointer (some ⟨g,0,none⟩)] w (Rt w (.int .i64 (mountV st))):=by
 obtain⟨vs,vw,vl,vb,h⟩:=h
 exact c2e S g st vs vw vl vb w h hg.ss (fun x hx=>(hg.ws x hx).1) (fun x hx=>(hg.ws x hx).2) hg.n1 (by have:=hg.wn;omega)
theorem c7y{w3 w4:World}{g gs n:Nat}{ss:List (List Int)}(hs:Secs ss)(hl:ss.length=n)(hn:n≤65)(h1:w3.heap.size≤gs)(h2:w3.heap.size≤g)(h3:gs≠g)(h4:dsk.Rows w4 gs ss)(h5:w4.heap[g]? = some (.cells #[.slice (some ⟨gs,0,none⟩) n n,.slice none 0 0,.int .i64 0,.slice none 0 0,.slice none 0 0,.int .i64 0] 56 (0,0))):RefIs w4 (fun b=>w3.heap.size≤b∧b<w4.heap.size) g (st0 ss):=by
 have hgl:g<w4.heap.size:=(Array.getElem?_eq_some_iff.1 h5).1
 have hgsl:gs<w4.heap.size:=(Array.getElem?_eq_some_iff.1 h4).1
 refine⟨_,_,_,_,h5,⟨h2,hgl⟩,?_,?_,a2g _ _,dsk.a7d _,⟨[],rfl,a2g _ _,dsk.a7d _,fun i hi=>absurd hi (Nat.not_lt_zero _)⟩,a2g _ _,dsk.a7d _⟩
 ·show Rd w4 32 _ ss.length (cellsOf ss)
  have h:=dsk.b9u h4 hs (by unfold maxLen;omega)
  rw[hl] at h ⊢
  exact h
 ·intro a n' c' e hn'
  cases e
  exact⟨⟨h1,hgsl⟩,h3⟩
set_option maxRecDepth 100000 in
set_option maxHeartbeats 16000000 in
theorem b9w(w:World)(p:Option Addr)(n c:Nat)(ss:List (List Int))(hss:Secs ss)(hr:Rd w 32 (.slice p n c) n (cellsOf ss))(hnm:n≤maxLen)(q:Option Addr)(m cq:Nat)(l:List AX)(hlr:Rd w 6 (.slice q m cq) m ((l.map AX.c).flatten))(hmm:m≤maxLen)(hok:∀a∈l,a.ok w)(hmx:Mx w) :
  Calls Tryz.prog 3 #[.slice p n c,.slice q m cq] w (Rt w (.bool true)):=by
 have HLI:=ι (c3u q m cq 30 l w (by decide) (Below.refl _ _) hok hlr hmm)
 have HK:=ι fun w' (hb:Below w.heap.size w w')=>c8i sfsIs sfsHas knHas w' (hmx.later hb)
 have HRS:=ι fun w' (hb:Below w.heap.size w w')=>hr.later hb
 have HMX:=ι hmx
 have HOK:=ι hok
 have HR:=ι hlr
 have HSS:=ι hss
 have HLN:=ι (c3f hss hr)
 have HNU:=ι fun z w'=>lnumS z w'
 have hq:=fun p w'=>dsk.null_eq b9s p w'
 have hn9:(n:Int)≤9223372036854775807:=by unfold maxLen at hnm;omega
 have hm9:(m:Int)≤9223372036854775807:=by unfold maxLen at hmm;omega
 clear hss hr hlr hok hmx
 by_cases hn2:n≤200
 ·have d1:decide ((200:Int)<n)=false:=by simp;omega
  go_enter Tryz.func3,Tryz.ntmps3
  go_wp2_with fail
  refine HLI.out.mono ?_
  rintro e w1 ⟨b,rfl,rfl,hb⟩
  clear HLI
  cases b with
  | false =>
   clear hb
   go_wp2_with (go_at_call 8;refine(HK.out _ (Below.refl _ _)).mono ?_;rintro e w2 ⟨rfl,hb2⟩)
   go_ret
   exact⟨rfl,hb2⟩
  | true =>
   obtain⟨hn30,hli⟩:=hb rfl
   have HLL:=ι hli
   clear hb hli
   go_upto_region 3 with(go_at_call 8;refine(HK.out _ (Below.refl _ _)).mono ?_;rintro e w2 ⟨rfl,hb2⟩;have B2:=ι hb2;clear hb2)
   by_cases h65:1≤n∧n≤65
   ·have HCF:=ι (a8g w2 p n c ss HSS.out (HRS.out _ B2.out) h65.1 h65.2)
    have HRF:=ι fun w' (hb:Below w.heap.size w w')=>b7s p n c ss w' HSS.out (HRS.out _ hb) h65.1 h65.2
    by_cases hmb:mountsB ss=true
    ·have hss65:ss.length=65:=by rw[mountsB,Bool.and_eq_true,decide_eq_true_eq] at hmb;omega
     have HM:=ι fun w1 F d (h:CA w1 F d (st0 ss))=>sfsHas.mount w1 F d (st0 ss) 0 h (a4s HSS.out (by omega)) (by decide) (by
      unfold mountV
      rw[b3w,hmb,if_neg (show ¬(st0 ss).safe.length=0 by show ¬ss.length=0;omega),if_pos rfl])
     have hmv:mountV (st0 ss)=0:=by
      unfold mountV
      rw[b3w,hmb,if_neg (show ¬(st0 ss).safe.length=0 by show ¬ss.length=0;omega),if_pos rfl]
     have HRM:=ι fun w' S g (h:RefIs w' S g (st0 ss))=>b5x h (a4s HSS.out (by omega)) (by decide)
     rw[hmv] at HRM
     have HSL:=ι hss65
     have HN65:Hid (n≤65):=ι h65.2
     clear h65 hss65 hmb hmv
     go_upto_region 11 with(first
      | (go_at_call 9;refine HCF.out.mono ?_;rintro e w3 ⟨ad,rfl,hc,hb⟩;have HCA:=ι hc;have B23:=ι hb;have B3:=ι (a0a B2.out hb);clear hc hb)
      | (go_at_call 10;refine(HRF.out _ B3.out).mono ?_;rintro e w4 ⟨g,gs,rfl,h1,h2,h3,h4,h5,hb⟩;have HRI:=ι (c7y HSS.out HLN.out (by have:=HN65.out;omega) h1 h2 h3 h4 h5);have B34:=ι hb;have B4:=ι (a0a B3.out hb);have HCA4:=ι (dsk.b4h _ _ _ _ _ HCA.out (Keeps.of_below hb));clear hb h1 h2 h3 h4 h5)
      | (go_at_call 11;refine(HM.out _ _ _ HCA4.out).mono ?_;rintro e w5 ⟨af,rfl,hf,hb⟩;have B45:=ι hb;have B5:=ι (a0a B4.out hb);have HF5:=ι hf;clear hb hf)
      | (go_at_call 12;refine(HRM.out _ _ _ (a0u HRI.out B45.out)).mono ?_;rintro e w6 ⟨rfl,hb⟩;have B56:=ι hb;have B6:=ι (a0a B5.out hb);clear hb)
      | (go_at_call 13;refine(HNU.out _ _).mono ?_;rintro e wn ⟨rfl,hw⟩;obtain rfl:=hw.symm))
     have P0:Hid (PAt w.heap.size (.pointer (some ad)) (.pointer (some af)) g w6 (grow (fun b=>w2.heap.size≤b∧b<w3.heap.size) w4 w5) (fun b=>w3.heap.size≤b∧b<w4.heap.size) (st0 ss) (10 * 0)):=ι (PAt.later (w:=w5) (by
      have s2:=B2.out.size
      have s3:=B23.out.size
      have s4:=B34.out.size
      have s5:=B45.out.size
      exact⟨⟨HF5.out,a4s HSS.out (by have:=HSL.out;omega),fun b hb=>by rcases hb with hb|hb<;>omega⟩,a0u HRI.out B45.out,fun b hb=>by omega,fun b hF hS=>by rcases hF with hF|hF<;>omega,HSL.out⟩) B56.out)
     generalize (grow (fun b=>w2.heap.size≤b∧b<w3.heap.size) w4 w5)=F0 at *
     generalize (fun b=>w3.heap.size≤b∧b<w4.heap.size)=S0 at *
     generalize st0 ss=sz at *
     generalize hd0:Value.pointer (some ad)=d at *
     clear hd0 HCF HRF HM HRM HCA HCA4 HRI B23 B34 B45 B56 B2 B3 B4 B5 HF5 HSL HN65 HSS HLN HRS HK
     go_wp2_with fail
     go_loopw [12] (fun iv wr=>∃(i:Nat) (F S:Nat→Prop) (st:St),i≤m∧iv = .int .i64 (i:Int)∧Hid (PAt w.heap.size d (.pointer (some af)) g wr F S st (10 * i))∧Hid (Below w.heap.size w wr)) (fun iv _=>m-(intOf iv).toNat)
     case atStart=>exact⟨0,F0,S0,sz,by omega,rfl,P0,B6⟩
     case round =>
      clear P0 B6
      obtain⟨i,F,S,st,hi,rfl,HP,HB⟩:=hrel
      by_cases hin:i<m
      ·have hin1:(i:Int)<m:=by omega
       have hil:i<l.length:=by have:=dsk.Rd.count AX.c HR.out (fun _ _=>rfl) (by decide);omega
       obtain⟨b1,o1,rfl,hc1,hm1,hh1,hl1,HR1⟩:=dsk.Rd.chunk AX.c HR.out (fun _ _=>rfl) (by decide) hin
       have hmem:=List.getElem_mem hil
       have HWR:=ι (Rd.rangeLater (HR1 i hil) hh1 HB.out)
       have HXO:=ι (HOK.out _ hmem)
       have HXL:=ι (HLL.out _ hmem)
       generalize l[i]=x at *
       clear HR1 hl1 hmem
       go_upto_block 2 with(refine c5u rfl (.tmp 69) rfl b1 (o1+i * 6) rfl x HWR.out ?_)
       obtain⟨⟨kd,pp,qq,nn,bb,bad⟩,p1,n1,c1,p2,n2,c2⟩:=x
       have al5:=a0b (Below.refl wr.heap.size wr) (.cells #[.int .i64 kd,.string pp,.string qq,.int .i64 nn,.slice p1 n1 c1,.slice p2 n2 c2] 41)
       have HP5:=ι (HP.out.later al5)
       have HB5:=ι (a0a HB.out al5)
       have HBX:Hid ((wr.alloc (.cells #[.int .i64 kd,.string pp,.string qq,.int .i64 nn,.slice p1 n1 c1,.slice p2 n2 c2] 41)).heap[wr.heap.size]? = some (.cells #[.int .i64 kd,.string pp,.string qq,.int .i64 nn,.slice p1 n1 c1,.slice p2 n2 c2] 41 (0,0))):=ι (heap_alloc_new _ _)
       have hnb:Hid (∀b,F b∨S b→b≠wr.heap.size):=ι (fun b hb e=>by
        rcases hb with hb|hb
        ·have:=(HP.out.q.inF b hb).2;omega
        ·have:=(HP.out.inS b hb).2;omega)
       clear al5 HP HB HWR
       generalize wr.alloc (.cells #[.int .i64 kd,.string pp,.string qq,.int .i64 nn,.slice p1 n1 c1,.slice p2 n2 c2] 41)=w5 at *
       generalize wr.heap.size=gb at *
       have x0:=a0c HBX.out 0 _ rfl
       have x1:=a0c HBX.out 1 _ rfl
       have x2:=a0c HBX.out 2 _ rfl
       have x3:=a0c HBX.out 3 _ rfl
       have x4:=a0c HBX.out 4 _ rfl
       have x5:=a0c HBX.out 5 _ rfl
       have HAI:=ι ((AX.actIn HXO.out HXL.out).later HB5.out)
       have HBI:=ι ((AX.badIn HXO.out HXL.out).later HB5.out)
       have hpz:pp.size≤100:=HXL.out.1
       have hqz:qq.size≤100:=HXL.out.2.1
       have hn1:n1≤300:=HXL.out.2.2.1
       have hn2:n2≤30:=HXL.out.2.2.2
       have hk10:10 * i≤290:=by omega
       have hrd:Rd w5 1 (.slice p1 n1 c1) n1 (bb.map (Value.int .u8)):=by
        have h:=HAI.out.rd
        simp only at h
        rwa [show bb.length=n1 from HXO.out.bl] at h
       have H0:=ι fun w' (hb':Below w5.heap.size w5 w') (kind:Int) (hkd:0≤kind∧kind<256)=>c5n S g st w' (a0u HP5.out.ref hb') (10 * i) HP5.out.q.good (by omega) pp (by omega) kind hkd
       have H2:=ι fun w' (hb':Below w5.heap.size w5 w')=>b2o S g st w' (10 * i) pp nn p1 n1 c1 bb (a0u HP5.out.ref hb') HP5.out.q.good (by omega) HP5.out.len (by omega) HAI.out.n (hrd.later hb') hn1 HAI.out.bb
       have H3:=ι fun w' (hb':Below w5.heap.size w5 w')=>rappend65 S g st w' (a0u HP5.out.ref hb') (10 * i) HP5.out.q.good (by omega) HP5.out.len pp (by omega) p1 n1 c1 bb (hrd.later hb') hn1 HAI.out.bb
       have H4:=ι fun w' (hb':Below w5.heap.size w5 w')=>c3v S g st w' (a0u HP5.out.ref hb') (10 * i) HP5.out.q.good (by omega) pp (by omega) nn HAI.out.n
       have H5:=ι fun w' (hb':Below w5.heap.size w5 w')=>b8b S g st w' (a0u HP5.out.ref hb') (10 * i) HP5.out.q.good (by omega) pp qq (by omega) (by omega)
       have H6:=ι fun w' (hb':Below w5.heap.size w5 w')=>b9i S g st w' (a0u HP5.out.ref hb') (10 * i) HP5.out.q.good (by omega) pp (by omega)
       have H7:=ι fun w' (hb':Below w5.heap.size w5 w')=>dsk.rfail S g st w' (a0u HP5.out.ref hb') p2 n2 c2 bad (HBI.out.rd.later hb') (by omega)
       have HDO:=ι fun w' (hk':Keeps F w5 w') (hb':Below w.heap.size w w')=>c9m d w' F _ st (10 * i) ((HP5.out.q.kept hk').fi) HP5.out.q.good (by omega) (HMX.out.later hb') ⟨kd,pp,qq,nn,bb,bad⟩ p1 n1 c1 p2 n2 c2 ((AX.actIn HXO.out HXL.out).later hb') (fun a mm c' hv hn hF=>by
        have h1:=c5x HXO.out.rd a mm c' hv hn
        have h2:=(HP5.out.q.inF _ hF).1
        omega) ((AX.badIn HXO.out HXL.out).later hb') (fun a mm c' hv hn hF=>by
        have h1:=c5x HXO.out.bad a mm c' hv hn
        have h2:=(HP5.out.q.inF _ hF).1
        omega)
       have HGD:Hid ((fDo7 st ⟨kd,pp,qq,nn,bb,bad⟩).2.good (10 * i+10)):=ι (c5j HP5.out.q.good _ HAI.out.bb HBI.out.len)
       have HLD:Hid ((fDo7 st ⟨kd,pp,qq,nn,bb,bad⟩).2.safe.length=65):=ι (by
        rw[← HP5.out.len]
        unfold fDo7
        split
        ·rfl
        ·exact fDo_len ..)
       obtain⟨V,hV⟩:∃V,fDo7 st ⟨kd,pp,qq,nn,bb,bad⟩=V:=⟨_,rfl⟩
       rw[hV] at HDO HGD HLD
       obtain⟨r1,st1⟩:=V
       simp only at HGD HLD
       unfold fDo7 fDo at hV
       simp only at hV
       have HV0:=ι hV
       clear hrd hV
       go_cut [14] from 73 to 128 (fun hv wc=>hv = .int .i64 r1∧Hid (RefIs wc (grow S w5 wc) g st1)∧Hid (dsk.Touch (· = g) w5 wc))
       case first =>
         have hV:=HV0.out
         clear HDO HGD HLD HV0
         by_cases h0:kd=0
         ·subst h0
          simp only[Int.reduceEq,if_true,if_false,ite_true,ite_false] at hV
          have HV:=ι hV
          clear hV
          go_wp2_with (go_at_call 15;refine(H0.out _ (Below.refl _ _) 1 (by omega)).mono ?_;rintro e wz hd;have D2:Hid (RefDone S g w5 (r1,st1) e wz):=ι (by rw[← HV.out];exact hd);have he2:=D2.out.1;clear hd;subst he2)
          go_meet
          case rel=>exact⟨rfl,ι D2.out.2.1,ι D2.out.2.2⟩
         have k0:(kd == 0)=false:=beq_eq_false_iff_ne.2 h0
         by_cases h1:kd=1
         ·subst h1
          simp only[Int.reduceEq,if_true,if_false,ite_true,ite_false] at hV
          clear h0
          have HV:=ι hV
          clear hV
          go_wp2_with (go_at_call 15;refine(H0.out _ (Below.refl _ _) 2 (by omega)).mono ?_;rintro e wz hd;have D2:Hid (RefDone S g w5 (r1,st1) e wz):=ι (by rw[← HV.out];exact hd);have he2:=D2.out.1;clear hd;subst he2)
          go_meet
          case rel=>exact⟨rfl,ι D2.out.2.1,ι D2.out.2.2⟩
         have k1:(kd == 1)=false:=beq_eq_false_iff_ne.2 h1
         by_cases h2:kd=2
         ·subst h2
          simp only[Int.reduceEq,if_true,if_false,ite_true,ite_false] at hV
          clear h0 h1
          have HV:=ι hV
          clear hV
          go_wp2_with (go_at_call 16;refine(H2.out _ (Below.refl _ _)).mono ?_;rintro e wz hd;have D2:Hid (RefDone S g w5 (r1,st1) e wz):=ι (by rw[← HV.out];exact hd);have he2:=D2.out.1;clear hd;subst he2)
          go_meet
          case rel=>exact⟨rfl,ι D2.out.2.1,ι D2.out.2.2⟩
         have k2:(kd == 2)=false:=beq_eq_false_iff_ne.2 h2
         by_cases h3:kd=3
         ·subst h3
          simp only[Int.reduceEq,if_true,if_false,ite_true,ite_false] at hV
          clear h0 h1 h2
          have HV:=ι hV
          clear hV
          go_wp2_with (go_at_call 17;refine(H3.out _ (Below.refl _ _)).mono ?_;rintro e wz hd;have D2:Hid (RefDone S g w5 (r1,st1) e wz):=ι (by rw[← HV.out];exact hd);have he2:=D2.out.1;clear hd;subst he2)
          go_meet
          case rel=>exact⟨rfl,ι D2.out.2.1,ι D2.out.2.2⟩
         have k3:(kd == 3)=false:=beq_eq_false_iff_ne.2 h3
         by_cases h4:kd=4
         ·subst h4
          simp only[Int.reduceEq,if_true,if_false,ite_true,ite_false] at hV
          clear h0 h1 h2 h3
          have HV:=ι hV
          clear hV
          go_wp2_with (go_at_call 18;refine(H4.out _ (Below.refl _ _)).mono ?_;rintro e wz hd;have D2:Hid (RefDone S g w5 (r1,st1) e wz):=ι (by rw[← HV.out];exact hd);have he2:=D2.out.1;clear hd;subst he2)
          go_meet
          case rel=>exact⟨rfl,ι D2.out.2.1,ι D2.out.2.2⟩
         have k4:(kd == 4)=false:=beq_eq_false_iff_ne.2 h4
         by_cases h5:kd=5
         ·subst h5
          simp only[Int.reduceEq,if_true,if_false,ite_true,ite_false] at hV
          clear h0 h1 h2 h3 h4
          have HV:=ι hV
          clear hV
          go_wp2_with (go_at_call 19;refine(H5.out _ (Below.refl _ _)).mono ?_;rintro e wz hd;have D2:Hid (RefDone S g w5 (r1,st1) e wz):=ι (by rw[← HV.out];exact hd);have he2:=D2.out.1;clear hd;subst he2)
          go_meet
          case rel=>exact⟨rfl,ι D2.out.2.1,ι D2.out.2.2⟩
         have k5:(kd == 5)=false:=beq_eq_false_iff_ne.2 h5
         by_cases h6:kd=6
         ·subst h6
          simp only[Int.reduceEq,if_true,if_false,ite_true,ite_false] at hV
          clear h0 h1 h2 h3 h4 h5
          have HV:=ι hV
          clear hV
          go_wp2_with (go_at_call 20;refine(H6.out _ (Below.refl _ _)).mono ?_;rintro e wz hd;have D2:Hid (RefDone S g w5 (r1,st1) e wz):=ι (by rw[← HV.out];exact hd);have he2:=D2.out.1;clear hd;subst he2)
          go_meet
          case rel=>exact⟨rfl,ι D2.out.2.1,ι D2.out.2.2⟩
         have k6:(kd == 6)=false:=beq_eq_false_iff_ne.2 h6
         by_cases h7:kd=7
         ·subst h7
          simp only[Int.reduceEq,if_true,if_false,ite_true,ite_false] at hV
          clear h0 h1 h2 h3 h4 h5 h6
          have hV1:(0:Int)=r1:=congrArg Prod.fst hV
          have hV2:dsk.fail st bad=st1:=congrArg Prod.snd hV
          subst hV1
          subst hV2
          clear hV
          go_wp2_with (go_at_call 21;refine(H7.out _ (Below.refl _ _)).mono ?_;rintro e wz ⟨rfl,hr,ht⟩;have D2:Hid (RefDone S g w5 (0,dsk.fail st bad) (.returned (.int .i64 0)) wz):=ι ⟨rfl,hr,ht⟩;clear hr ht)
          go_meet
          case rel=>exact⟨rfl,ι D2.out.2.1,ι D2.out.2.2⟩
         have k7:(kd == 7)=false:=beq_eq_false_iff_ne.2 h7
         rw[if_neg h7,if_neg h0,if_neg h1,if_neg h2,if_neg h3,if_neg h4,if_neg h5,if_neg h6] at hV
         have hV1:(0:Int)=r1:=congrArg Prod.fst hV
         have hV2:st=st1:=congrArg Prod.snd hV
         subst hV1
         subst hV2
         clear hV h0 h1 h2 h3 h4 h5 h6 h7
         have D2:=ι (a0n HP5.out.ref (Below.refl w5.heap.size w5) (x:=0))
         go_wp2_with fail
         go_meet
         case rel=>exact⟨rfl,ι D2.out.2.1,ι D2.out.2.2⟩
       case rest =>
        obtain⟨rfl,HRI,HT⟩:=hcut
        clear x0 x1 x2 x3 x4 x5
        have hgo:=b0t HP5.out.ref
        have hTd:dsk.Touch (· = g) w5 wc.drew:=HT.out.drew
        have hKd:Keeps F w5 wc.drew:=hTd.keeps (fun b hF hb=>by
         have hb':b=g:=hb
         subst hb'
         exact HP5.out.apart _ hF hgo)
        have hBd:Below w.heap.size w wc.drew:=HB5.out.trans (hTd.below HB5.out.size (fun b hb=>by
         have hb':b=g:=hb
         subst hb'
         exact(HP5.out.inS _ hgo).1))
        have HD:=ι (HDO.out wc.drew hKd hBd)
        have hgb:gb<w5.heap.size:=(Array.getElem?_eq_some_iff.1 HBX.out).1
        have hgg:¬gb=g:=fun e=>hnb.out g (Or.inr hgo) e.symm
        have HRX:=ι ((hTd.block gb hgb hgg).trans HBX.out)
        have hgbc:gb<wc.drew.heap.size:=Nat.lt_of_lt_of_le hgb hTd.size
        have hgF:¬F gb:=fun e=>hnb.out gb (Or.inl e) rfl
        have HXR:Hid (∀w',dsk.Touch F wc.drew w'→w'.heap[gb]? = some (.cells #[.int .i64 kd,.string pp,.string qq,.int .i64 nn,.slice p1 n1 c1,.slice p2 n2 c2] 41 (0,0))):=ι (fun w' hw=>(hw.block gb hgbc hgF).trans HRX.out)
        have HRd:Hid (RefIs wc.drew (grow S w5 wc.drew) g st1):=ι (a0u HRI.out (Below.refl wc.heap.size wc).drew)
        have HPX:Hid (∀w2 e,FDone (FI d) F (.pointer (some af)) wc.drew (r1,st1) e w2→PAt w.heap.size d (.pointer (some af)) g w2 (grow F wc.drew w2) (grow S w5 wc.drew) st1 (10 * i+10)):=ι (fun w2 e D=>HP5.out.stepR HB5.out.size (r:=(r1,st1)) HRd.out hTd D HGD.out HLD.out)
        have HBd:=ι hBd
        clear hgo hTd hKd hBd hgb hgg HDO HV0 H0 H2 H3 H4 H5 H6 H7 HRI HT
        have HRG:Hid (∀w',dsk.Touch F wc.drew w'→w'.rangeAt gb 0 (AX.c ⟨⟨kd,pp,qq,nn,bb,bad⟩,p1,n1,c1,p2,n2,c2⟩)):=ι (fun w' hw i u hi=>by
         rw[Nat.zero_add]
         first|exact a0c (HXR.out w' hw) i u hi|exact a0c (HXR.out w' hw) i u (by simpa using hi)|exact a0c (HXR.out w' hw) i u (by simpa [AX.c] using hi))
        have HIF:Hid (∀b,F b→w.heap.size≤b):=ι (fun b hb=>(HP5.out.q.inF b hb).1)
        have e10:10 * (i+1)=10 * i+10:=by omega
        have E10:=ι e10
        clear e10
        go_wp2_with fail
        refine wp_region_held_drew (S:=dsk.Touch F wc.drew) (by kernel_rfl) (dsk.Touch.refl _ _) (fun hH0 => ?_)
        refine tk 0 rfl ?_
        refine tkv 1 rfl (ld_act6 (by rfl) _ rfl gb 0 rfl ⟨⟨kd,pp,qq,nn,bb,bad⟩,p1,n1,c1,p2,n2,c2⟩ HRG.out) ?_
        refine tk 4 rfl ?_
        refine rd 2 rfl (fun K hK => ?_)
        go_simp
        refine HD.out.mono ?_
        rintro e v1 hD
        obtain⟨F2,HP2⟩:∃F2,Hid (PAt w.heap.size d (.pointer (some af)) g v1 F2 (grow S w5 wc.drew) st1 (10 * i+10)):=⟨_,ι (HPX.out v1 e hD)⟩
        obtain⟨rfl,_,ht⟩:=hD
        have h1:dsk.Touch F wc.drew v1:=ht
        clear ht
        dsimp only
        refine hK.out _ _ h1 (fun hHeld => ?_)
        try simp only[Act.put,List.setIfInBounds_toArray,List.set_cons_zero,List.set_cons_succ]
        refine rd 3 rfl (fun K hK => ?_)
        go_simp
        refine(HNU.out _ _).mono ?_
        rintro e vn ⟨rfl,hv⟩
        subst hv
        have h2:=h1
        dsimp only
        refine hK.out _ _ h2 (fun hHeld => ?_)
        try simp only[Act.put,List.setIfInBounds_toArray,List.set_cons_zero,List.set_cons_succ]
        refine rd 5 rfl (fun K hK => ?_)
        go_simp
        refine(HNU.out _ _).mono ?_
        rintro e vn ⟨rfl,hv⟩
        subst hv
        have h3:=h2
        dsimp only
        refine hK.out _ _ h3 (fun hHeld => ?_)
        try simp only[Act.put,List.setIfInBounds_toArray,List.set_cons_zero,List.set_cons_succ]
        refine tkv 6 rfl ((show YieldsIf _ _ _ _ (Value.bool false) _ from Or.inl ⟨by rfl,fun w' hSw=>by(go_simp;try simp)⟩)) ?_
        refine tk 7 rfl ?_
        refine tk 8 rfl ?_
        refine tk 9 rfl ?_
        refine tk 11 rfl ?_
        refine tkv 12 rfl (a0l (by rfl) 9 _ a9z rfl _ rfl gb 1 rfl (.string pp) (fun w' hw=>a0c (HXR.out w' hw) 1 _ rfl)) ?_
        refine rd 10 rfl (fun K hK => ?_)
        go_simp
        refine(a5m HP2.out.ref HP2.out.q.good (by omega)).mono ?_
        rintro e v3 ⟨q3,cc3,rfl,hr,hb⟩
        have h4:=h3.trans (dsk.Touch.of_below hb)
        have HW3:=ι (HBd.out.trans (h4.below HBd.out.size (fun b hb=>HIF.out b hb)))
        have HP3:=ι (HP2.out.later hb)
        have HR3:=ι hr
        clear hr hb
        dsimp only
        refine hK.out _ _ h4 (fun hHeld => ?_)
        try simp only[Act.put,List.setIfInBounds_toArray,List.set_cons_zero,List.set_cons_succ]
        refine rd 13 rfl (fun K hK => ?_)
        go_simp
        refine(slooks d _ F2 (.pointer (some af)) st1 (10 * i+10) HP3.out.q.fi HP3.out.q.good (by omega) (HMX.out.later HW3.out) q3 _ cc3 HR3.out HLD.out pp (by omega)).mono ?_
        rintro e v4 ⟨rfl,hb⟩
        have h5:=h4.trans (dsk.Touch.of_below hb)
        have HW4:=ι (HBd.out.trans (h5.below HBd.out.size (fun b hb=>HIF.out b hb)))
        have HP4:=ι (HP3.out.later hb)
        clear hb
        dsimp only
        refine hK.out _ _ h5 (fun hHeld => ?_)
        try simp only[Act.put,List.setIfInBounds_toArray,List.set_cons_zero,List.set_cons_succ]
        refine tk 14 rfl ?_
        refine tk 15 rfl ?_
        refine tk 16 rfl ?_
        refine tk 17 rfl ?_
        refine tk 18 rfl ?_
        refine tk 20 rfl ?_
        refine tkv 21 rfl (a0l (by rfl) 9 _ a9z rfl _ rfl gb 2 rfl (.string qq) (fun w' hw=>a0c (HXR.out w' hw) 2 _ rfl)) ?_
        refine rd 19 rfl (fun K hK => ?_)
        go_simp
        refine(a5m HP4.out.ref HP4.out.q.good (by omega)).mono ?_
        rintro e v5 ⟨q5,cc5,rfl,hr,hb⟩
        have h6:=h5.trans (dsk.Touch.of_below hb)
        have HW5:=ι (HBd.out.trans (h6.below HBd.out.size (fun b hb=>HIF.out b hb)))
        have HP5:=ι (HP4.out.later hb)
        have HR5:=ι hr
        clear hr hb
        dsimp only
        refine hK.out _ _ h6 (fun hHeld => ?_)
        try simp only[Act.put,List.setIfInBounds_toArray,List.set_cons_zero,List.set_cons_succ]
        refine rd 22 rfl (fun K hK => ?_)
        go_simp
        refine(slooks d _ F2 (.pointer (some af)) st1 (10 * i+10) HP5.out.q.fi HP5.out.q.good (by omega) (HMX.out.later HW5.out) q5 _ cc5 HR5.out HLD.out qq (by omega)).mono ?_
        rintro e v6 ⟨rfl,hb⟩
        have h7:=h6.trans (dsk.Touch.of_below hb)
        have HW6:=ι (HBd.out.trans (h7.below HBd.out.size (fun b hb=>HIF.out b hb)))
        have HP6:=ι (HP5.out.later hb)
        clear hb
        dsimp only
        refine hK.out _ _ h7 (fun hHeld => ?_)
        try simp only[Act.put,List.setIfInBounds_toArray,List.set_cons_zero,List.set_cons_succ]
        refine tk 23 rfl ?_
        refine tk 24 rfl ?_
        refine wpAnyH_done (by kernel_rfl) ?_ _
        clear hHeld hH0
        go_wp2_with fail
        exact⟨⟨i+1,F2,_,st1,by omega,by go_num,(by rw[E10.out];exact HP6),HW6⟩,by simp[intOf];omega⟩
      ·obtain rfl:i=m:=by omega
       obtain⟨vs,vw,vl,vb,hra⟩:=(HP.out.later (Below.refl wr.heap.size wr).drew).ref
       obtain⟨es,hes⟩:=hra.log
       obtain⟨pl,cl,hvl⟩:=b7e hes.cells
       obtain⟨pw,cw,hvw⟩:=b7e hra.wait
       subst hvl
       subst hvw
       have hgd:=HP.out.q.good.fine (by omega)
       have HFI:=ι hgd
       have HCA:=ι (sfsHas.code d wr.drew F _ st (HP.out.later (Below.refl wr.heap.size wr).drew).q.fi)
       have HRW:=ι hra.row
       have HES:=ι hes
       have hgl:g<wr.drew.heap.size:=(Array.getElem?_eq_some_iff.1 hra.row).1
       have HBD:=ι HB.out.drew
       have hln:=HFI.out.few.ln
       clear hra hes hgd HP HB
       go_wp2_with fail
       have h0:=Below.refl wr.drew.heap.size wr.drew
       refine wp_region_held_drew (S:=ext wr.drew) (by kernel_rfl) (Below.refl _ _) (fun hH0 => ?_)
       refine tk 0 rfl ?_
       refine tk 2 rfl ?_
       refine tk 3 rfl ?_
       refine tk 4 rfl ?_
       refine tkv 5 rfl (a0l (by rfl) 52 _ c7p rfl _ rfl g 3 rfl (.slice pl st.log.length cl) (fun w' hw=>a0c (a0z HRW.out hw hgl) 3 _ rfl)) ?_
       refine rd 1 rfl (fun K hK => ?_)
       go_simp
       refine(dsk.clog _ F _ st (dsk.b4h _ _ _ _ _ HCA.out (Keeps.of_below h0)) HFI.out).mono ?_
       rintro e v1 ⟨p1,c1,es1,rfl,he1,hb1⟩
       have HE1:=ι he1
       have h1:=a0a h0 hb1
       clear he1 hb1
       dsimp only
       refine hK.out _ _ ?_ (fun hHeld => ?_)
       ·exact h1
       try simp only[Act.put,List.setIfInBounds_toArray,List.set_cons_zero,List.set_cons_succ]
       refine rd 6 rfl (fun K hK => ?_)
       go_simp
       refine(dsk.b9x _ _ p1 pl _ c1 cl st.log es1 es _ HFI.out.few.es HFI.out.few.ts HE1.out (a3m HES.out (Keeps.of_below h1) (fun b hb=>hb)) (by omega)).mono ?_
       rintro e v2 ⟨rfl,k2,rfl⟩
       have h2:=a3r h1 k2
       dsimp only
       refine hK.out _ _ ?_ (fun hHeld => ?_)
       ·exact h2
       try simp only[Act.put,List.setIfInBounds_toArray,List.set_cons_zero,List.set_cons_succ]
       refine tk 7 rfl ?_
       refine wpAnyH_done (by kernel_rfl) ?_ _
       clear hHeld hH0
       go_wp2_with fail
       go_ret
       exact⟨rfl,a0a HBD.out h2⟩
    ·have hm0:mountsB ss=false:=by simpa using hmb
     have HM:=ι fun w1 F d (h:CA w1 F d (st0 ss))=>b6g w1 d ss (Or.inr ⟨F,st0 ss,h,(a4s HSS.out (by have:=HLN.out;omega)).fine (by omega),(b4n (st0 ss) fun x hx=>(by cases hx)).symm⟩) 8 (Or.inr ⟨by have:=HLN.out;omega,hm0,rfl⟩)
     have HN65:Hid (n≤65):=ι h65.2
     have hmv:mountV (st0 ss)=8:=by
      unfold mountV
      rw[b3w,hm0,if_neg (show ¬(st0 ss).safe.length=0 by show ¬ss.length=0;have:=HLN.out;omega),if_neg (by decide)]
     have HRM:=ι fun w' S g (h:RefIs w' S g (st0 ss))=>b5x h (a4s HSS.out (by have:=HLN.out;omega)) (by decide)
     rw[hmv] at HRM
     clear hmb hm0 h65 hmv
     go_wp2_with (first
      | (go_at_call 9;refine HCF.out.mono ?_;rintro e w3 ⟨ad,rfl,hc,hb⟩;have HCA:=ι hc;have B23:=ι hb;have B3:=ι (a0a B2.out hb);clear hc hb)
      | (go_at_call 10;refine(HRF.out _ B3.out).mono ?_;rintro e w4 ⟨g,gs,rfl,h1,h2,h3,h4,h5,hb⟩;have HRI:=ι (c7y HSS.out HLN.out (by have:=HN65.out;omega) h1 h2 h3 h4 h5);clear h1 h2 h3 h4 h5;have B4:=ι (a0a B3.out hb);have HCA4:=ι (dsk.b4h _ _ _ _ _ HCA.out (Keeps.of_below hb));clear hb)
      | (go_at_call 11;refine(HM.out _ _ _ HCA4.out).mono ?_;rintro e w5 ⟨rfl,hb⟩;have B45:=ι hb;have B5:=ι (a0a B4.out hb);clear hb)
      | (go_at_call 13;refine(HNU.out _ _).mono ?_;rintro e wn ⟨rfl,hw⟩;obtain rfl:=hw.symm)
      | (go_at_call 12;refine(HRM.out _ _ _ (a0u HRI.out B45.out)).mono ?_;rintro e w6 ⟨rfl,hb⟩;have B6:=ι (a0a B5.out hb);clear hb)
      | (go_at_call 14;refine(b6d _).mono ?_;rintro e w7 ⟨rfl,hb⟩;have B7:=ι (a0a B6.out hb);clear hb))
     go_ret
     exact⟨rfl,B7.out⟩
   ·have HCF:=ι (c1p w2 p n c hn2 (by omega))
    have HRF:=ι fun w'=>c0k p n c w' hn2 (by omega)
    have HM:=ι fun w1=>b6g w1 (.pointer none) [] (Or.inl ⟨rfl,rfl⟩) 1 (Or.inl ⟨rfl,rfl⟩)
    clear h65
    go_wp2_with (first
     | (go_at_call 9;refine HCF.out.mono ?_;rintro e w3 ⟨rfl,hb⟩;have B3:=ι (a0a B2.out hb);clear hb)
     | (go_at_call 10;refine(HRF.out _).mono ?_;rintro e w4 ⟨rfl,hb⟩;have B4:=ι (a0a B3.out hb);clear hb)
     | (go_at_call 11;refine(HM.out _).mono ?_;rintro e w5 ⟨rfl,hb⟩;have B5:=ι (a0a B4.out hb);clear hb)
     | (go_at_call 13;refine(HNU.out _ _).mono ?_;rintro e wn ⟨rfl,hw⟩;obtain rfl:=hw.symm)
     | (go_at_call 12;refine(c3o _).mono ?_;rintro e w6 ⟨rfl,hw⟩;obtain rfl:=hw)
     | (go_at_call 14;refine(b6d _).mono ?_;rintro e w7 ⟨rfl,hb⟩;have B7:=ι (a0a B5.out hb);clear hb))
    go_ret
    exact⟨rfl,B7.out⟩
 ·have d1:decide ((200:Int)<n)=true:=by simp;omega
  clear HLI
  go_enter Tryz.func3,Tryz.ntmps3
  go_wp2_with (go_at_call 8;refine(HK.out _ (Below.refl _ _)).mono ?_;rintro e w2 ⟨rfl,hb2⟩)
  go_ret
  exact⟨rfl,hb2⟩
end fs
namespace fs
set_option maxRecDepth 100000
open Go.ChangeShapes Go.WideShapes Go.ChangeAt Go.RowKit
open rows
open sec
open ly
open lk
theorem walkSfsPlays(p:Option Addr)(n c:Nat)(ss:List (List Int))(q:Option Addr)(m cq:Nat)(l:List AX)(w:World)(hr:Rd w 32 (.slice p n c) n (cellsOf ss))(hnm:n≤maxLen)(hss:Secs ss)(hlr:Rd w 6 (.slice q m cq) m ((l.map AX.c).flatten))(hmm:m≤maxLen)(hok:∀a∈l,a.ok w)(hmx:pa.Mx w) :
  Calls Tryz.prog 3 #[.slice p n c,.slice q m cq] w (Rt w (.bool true)) :=
 b9w w p n c ss hss hr hnm q m cq l hlr hmm hok hmx
end fs
end Go.Proofs.YtiaapfijbidgnaaGreatDoor
