/- What FlushPlays wants, part 35. -/
import Derived.Test.YtiaapfijbidgnaaGreatDoorFlushPlaysA
import Derived.Test.YtiaapfijbidgnaaGreatDoorFlushPlaysB
import Derived.Test.YtiaapfijbidgnaaGreatDoorFlushPlaysC
import Derived.Test.YtiaapfijbidgnaaGreatDoorFlushPlaysE
import Derived.Test.YtiaapfijbidgnaaGreatDoorFlushPlaysF
import Derived.Test.YtiaapfijbidgnaaGreatDoorFlushPlaysG
import Derived.Test.YtiaapfijbidgnaaGreatDoorFlushPlaysH
import Derived.Test.YtiaapfijbidgnaaGreatDoorFlushPlaysI
import Derived.Test.YtiaapfijbidgnaaGreatDoorFlushPlaysT
import Derived.Test.YtiaapfijbidgnaaGreatDoorFlushPlaysZE
import Derived.Test.YtiaapfijbidgnaaGreatDoorFlushPlaysZF
import Derived.Test.YtiaapfijbidgnaaGreatDoorFlushPlaysZG
import Derived.Test.YtiaapfijbidgnaaGreatDoorFlushPlaysZH
set_option linter.unusedVariables false
set_option linter.unusedSimpArgs false
namespace Go.Proofs.YtiaapfijbidgnaaGreatDoor
namespace fs
set_option maxRecDepth 100000
open Go.ChangeShapes Go.WideShapes Go.ChangeAt Go.RowKit
open rows
open sec
open dsk (St Wr.c CA)
open ly
open pa
open lk
open al
set_option maxRecDepth 100000 in
theorem c6b(w:World)(d:Value)(ss:List (List Int))(hd:Dk w d ss)(hl:0<ss.length)(hm:mountsB ss=true):Calls Tryz.prog 11 #[d] w fun e w'=>∃g,e = .returned (.tuple #[.pointer (some ⟨g,0,none⟩),.int .i64 0])∧FR w' g d∧w.heap.size≤g∧Below w.heap.size w w':=by
 have HM:=ι fun w' (hb:Below w.heap.size w w')=>b1m w' d ss (hd.later hb)
 rw[hm] at HM
 have HR:=ι (dread w d ss 0 hd (a0g (by omega)))
 rw[if_pos ⟨by omega,by omega⟩] at HR
 have HX:=ι (a1s hd.secs.1 0)
 obtain⟨pd,rfl⟩:=c1z hd
 generalize secAt ss 0=s at *
 clear hd hl hm
 go_enter Tryz.func11,Tryz.ntmps11
 go_wp2_with (first
  | (go_at_call 59;refine HR.out.mono ?_;rintro e w1 ⟨rfl,hb⟩;have B1:=ι hb;clear hb)
  | (refine a0i rfl (.tmp 4) (.tmp 10) rfl rfl w1.heap.size s zero32 rfl rfl HX.out.1 (by decide) (a0z w1) ?_;intro w2 hA hB _;have B2:=ι (a0a B1.out ((a0b (Below.refl _ w1) _).trans hB));clear hA hB)
  | (go_at_call 60;refine(HM.out _ B2.out).mono ?_;rintro e w3 ⟨rfl,hb⟩;have B3:=ι (a0a B2.out hb);clear hb))
 go_ret2
 exact⟨w3.heap.size,rfl,heap_alloc_new _ _,B3.out.size,a0b B3.out _⟩
set_option maxRecDepth 100000 in
theorem b7h(w:World)(d:Value)(ss:List (List Int))(hd:Dk w d ss)(x:Int)(h:(ss.length=0∧x=1)∨(0<ss.length∧mountsB ss=false∧x=8)):Calls Tryz.prog 11 #[d] w (Rt w (.tuple #[.pointer none,.int .i64 x])):=by
 have HM:=ι fun w' (hb:Below w.heap.size w w')=>b1m w' d ss (hd.later hb)
 have HR:=ι (dread w d ss 0 hd (a0g (by omega)))
 have HX:=ι (a1s hd.secs.1 0)
 obtain⟨pd,rfl⟩:=c1z hd
 generalize secAt ss 0=s at *
 rcases h with⟨h1,rfl⟩|⟨h1,h2,rfl⟩
 ·rw[if_neg (by omega)] at HR
  clear hd h1 HM
  go_enter Tryz.func11,Tryz.ntmps11
  go_wp2_with (first
   | (go_at_call 59;refine HR.out.mono ?_;rintro e w1 ⟨rfl,hb⟩;have B1:=ι hb;clear hb)
   | (refine a0i rfl (.tmp 4) (.tmp 10) rfl rfl w1.heap.size s zero32 rfl rfl HX.out.1 (by decide) (a0z w1) ?_;intro w2 hA hB _;have B2:=ι (a0a B1.out ((a0b (Below.refl _ w1) _).trans hB));clear hA hB))
  go_ret2
  exact⟨rfl,B2.out⟩
 ·rw[if_pos ⟨by omega,by omega⟩] at HR
  rw[h2] at HM
  clear hd h1 h2
  go_enter Tryz.func11,Tryz.ntmps11
  go_wp2_with (first
   | (go_at_call 59;refine HR.out.mono ?_;rintro e w1 ⟨rfl,hb⟩;have B1:=ι hb;clear hb)
   | (refine a0i rfl (.tmp 4) (.tmp 10) rfl rfl w1.heap.size s zero32 rfl rfl HX.out.1 (by decide) (a0z w1) ?_;intro w2 hA hB _;have B2:=ι (a0a B1.out ((a0b (Below.refl _ w1) _).trans hB));clear hA hB)
   | (go_at_call 60;refine(HM.out _ B2.out).mono ?_;rintro e w3 ⟨rfl,hb⟩;have B3:=ι (a0a B2.out hb);clear hb))
  go_ret2
  exact⟨rfl,B3.out⟩
def FI(d:Value)(w:World)(F:Nat→Prop)(f:Value)(st:St):Prop:=∃g G,f = .pointer (some ⟨g,0,none⟩)∧F g∧(∀b,G b→F b)∧FsAt w G g d st
theorem a4j{d:Value}{w w':World}{F G:Nat→Prop}{g:Nat}{r:Int×St}{e:Ending}(hF:F g)(hG:∀b,G b→F b)(h:PDone (fun b=>G b∧b<w.heap.size) g d w r e w'):FDone (FI d) F (.pointer (some ⟨g,0,none⟩)) w r e w' :=
 ⟨h.1,⟨g,_,rfl,Or.inl hF,fun b hb=>hb.imp (fun h=>hG b h.1) id,h.2.1⟩,h.2.2.mono fun b hb=>hG b hb.1⟩
theorem c3k{d:Value}{w:World}{F:Nat→Prop}{f:Value}{st:St}{k:Nat}(h:FI d w F f st)(hg:st.good k)(hk:k≤880):∃g,f = .pointer (some ⟨g,0,none⟩)∧FK w g d (nowL st):=by
 obtain⟨g,G,rfl,_,_,h⟩:=h
 exact⟨g,rfl,h.known hg (by omega)⟩
theorem sfsIs(d:Value):SfsIs (FI d) where
 kept:=fun w w' F f st ⟨g,G,h1,h2,h3,h4⟩ k=>⟨g,G,h1,h2,h3,⟨(k.2 g h4.row.lt h2).trans h4.row,dsk.b2f _ _ _ _ _ h4.code (k.mono h3),h4.apart⟩⟩
 mono:=fun w F G f st ⟨g,H,h1,h2,h3,h4⟩ hFG=>⟨g,H,h1,hFG _ h2,fun b hb=>hFG b (h3 b hb),h4⟩
 read:=fun w F f st k s h hg hk hm hs=>by
  obtain⟨g,rfl,hk⟩:=c3k h hg hk
  exact fread w g d _ s hk hm hs
 exist:=fun w F f st k s h hg hk hm hs=>by
  obtain⟨g,rfl,hk⟩:=c3k h hg hk
  exact fexists w g d _ s hk hm hs
 create:=fun w F f st k s ⟨g,G,h1,h2,h3,h4⟩ hg hk hm hs=>by
  subst h1
  exact(fcreate _ g d st w (fun b hb=>hb.2) (a1h h4) k hg (by omega) hm s hs).mono fun e w' hd=>a4j h2 h3 hd
 mkdir:=fun w F f st k s ⟨g,G,h1,h2,h3,h4⟩ hg hk hm hs=>by
  subst h1
  exact(fmkdir _ g d st w (fun b hb=>hb.2) (a1h h4) k hg (by omega) hm s hs).mono fun e w' hd=>a4j h2 h3 hd
 write:=fun w F f st k s off p m c b ⟨g,G,h1,h2,h3,h4⟩ hg hk hm hs ho hb hin hm3 hbb=>by
  subst h1
  exact(fwrite _ g d st w (fun b hb=>hb.2) (a1h h4) k hg (by omega) hm s hs off ho p m c b hb hm3 hbb).mono fun e w' hd=>a4j h2 h3 hd
 append:=fun w F f st k s p m c b ⟨g,G,h1,h2,h3,h4⟩ hg hk hm hs hb hin hm3 hbb=>by
  subst h1
  exact(fappend _ g d st w (fun b hb=>hb.2) (a1h h4) k hg (by omega) hm s hs p m c b hb hm3 hbb).mono fun e w' hd=>a4j h2 h3 hd
 trunc:=fun w F f st k s z ⟨g,G,h1,h2,h3,h4⟩ hg hk hm hs hz=>by
  subst h1
  exact(ftrunc _ g d st w (fun b hb=>hb.2) (a1h h4) k hg (by omega) hm s hs z hz).mono fun e w' hd=>a4j h2 h3 hd
 rename:=fun w F f st k s u ⟨g,G,h1,h2,h3,h4⟩ hg hk hm hs hu=>by
  subst h1
  exact(frename _ g d st w (fun b hb=>hb.2) (a1h h4) k hg (by omega) hm s u hs hu).mono fun e w' hd=>a4j h2 h3 hd
 unlink:=fun w F f st k s ⟨g,G,h1,h2,h3,h4⟩ hg hk hm hs=>by
  subst h1
  exact(funlink _ g d st w (fun b hb=>hb.2) (a1h h4) k hg (by omega) hm s hs).mono fun e w' hd=>a4j h2 h3 hd
theorem sfsHas:SfsHas FI where
 mount:=fun w F d st k h hg hk hm=>by
  have hsn:=b5k st fun x hx=>(hg.ws x hx).2
  have hl:(nowL st).length=st.safe.length:=now_len st
  unfold mountV at hm
  split at hm
  ·cases hm
  ·rename_i h0
   split at hm
   ·rename_i h1
    refine(c6b w d (nowL st) (Or.inr ⟨F,st,h,hg.fine (by omega),hsn.symm⟩) (by omega) h1).mono ?_
    rintro e w' ⟨g,rfl,hr,hgl,hb⟩
    have hgw:=hr.lt
    refine⟨_,rfl,⟨g,fun b=>F b∧b<w.heap.size,rfl,Or.inr ⟨hgl,hgw⟩,fun b hb=>Or.inl hb.1,⟨hr,lk.CA.later' (dsk.CA.narrow h) hb,fun hh=>by have:=hh.2;omega⟩⟩,hb⟩
   ·cases hm
 disk:=fun d w F f st k ⟨g,G,h1,h2,h3,h4⟩ hg hk=>by
  subst h1
  exact fdisk g d w h4.row
 code:=fun d w F f st ⟨g,G,h1,h2,h3,h4⟩=>b3a h4.code h3
end fs
namespace fs
set_option maxRecDepth 100000
open Go.ChangeShapes Go.WideShapes Go.ChangeAt Go.RowKit
open rows
open sec
open dsk (a0m St Wr Wr.c CA CodeDone syncR tagsC tagC a2u a1l)
open ly
open pa
open lk
open al
def syncV(st:St)(s:ByteArray)(kind:Int)(ks:List Int):Int×St :=
 if (lookV (nowL st) (bys s)).2≠0 then ((lookV (nowL st) (bys s)).2,st)
 else if (inoAt (nowL st) (lookV (nowL st) (bys s)).1).kind≠kind then (6,st)
 else syncR st (ks.map fun k=>(k,(lookV (nowL st) (bys s)).1))
def cntW(ws:List Wr)(n:Int):Nat:=(ws.filter fun x=>decide (x.id=n)).length
def waitsV(st:St)(s:ByteArray):Int×Int:=if (lookV (nowL st) (bys s)).2≠0 then (0,(lookV (nowL st) (bys s)).2) else ((cntW st.wait (lookV (nowL st) (bys s)).1:Nat),0)
theorem b1g{d:Value}{w w1 w':World}{G:Nat→Prop}{g:Nat}{st:St}{r:Int×St}{e:Ending}(h:FsAt w G g d st)(hb:Below w.heap.size w w1)(hd:CodeDone CA G d w1 r e w'):PDone G g d w r e w':=by
 obtain⟨h1,h2,h3⟩:=hd
 have hlt:=h.row.lt
 refine⟨h1,⟨(h.row.later hb).touch h3 h.apart,b3a h2 (fun b hb' => ?_),fun hh => ?_⟩,(dsk.Touch.of_below hb).trans h3⟩
 ·rcases hb' with h|h
  ·exact Or.inl h
  ·exact Or.inr ⟨Nat.le_trans hb.size h.1,h.2⟩
 ·rcases hh with h1|h1
  ·exact h.apart h1
  ·omega
theorem c9k:Tryz.prog.underlying 26=some (.pointer 104):=by kernel_rfl
theorem b1n{w:World}{F:Nat→Prop}{d:Value}{st:St}(h:CA w F d st):∃a,d = .pointer (some a):=by
 obtain⟨z,g,vs,vw,vn,vl,vf,rfl,_⟩:=h
 exact⟨_,rfl⟩
theorem qlocate(w:World)(g:Nat)(a:Addr)(ss:List (List Int))(s:ByteArray)(h:FK w g (.pointer (some a)) ss)(hm:Mx w)(hsz:s.size≤100000) :
  Calls Tryz.prog 106 #[.pointer (some ⟨g,0,none⟩),.string s] w (Rt w (lookT (lookV ss (bys s)))):=by
 have HD:=ι (fdisk g _ w h.row)
 have HL:=ι (a7d w _ ss s hm h.dk hsz)
 have hq:=fun w'=>dsk.b6e c9k (some a) w'
 simp only[Option.isNone_some] at hq
 generalize lookV ss (bys s)=lv at *
 obtain⟨z,er⟩:=lv
 unfold lookT at HL
 simp only at HL
 clear h hm hsz
 go_enter Tryz.func106,Tryz.ntmps106
 go_wp2_with (first|(go_at_call 30;refine HD.out.mono ?_;rintro e w1 ⟨rfl,hw⟩;obtain rfl:=hw.symm)|(go_at_call 122;refine HL.out.mono ?_;rintro e w2 ⟨rfl,hb⟩;have B2:=ι hb;clear hb))
 go_ret2
 exact⟨rfl,B2.out⟩
theorem qtagsof(w:World)(p:Option Addr)(m c:Nat):Calls Tryz.prog 108 #[.slice p m c] w fun e w'=>e = .returned (.func (.func 160) #[] #[.pointer (some ⟨w.heap.size,0,none⟩)])∧w'=w.alloc (.cells #[.slice p m c] 39):=by
 go_enter Tryz.func108,Tryz.ntmps108
 go_wp2
 go_ret
 exact⟨rfl,rfl⟩
theorem c5e(ts:List (Int×Int))(t:Int×Int):tagsC (ts++[t])=tagsC ts++[.int .i64 t.1,.int .i64 t.2]:=by simp[tagsC,tagC]
set_option maxRecDepth 100000 in
theorem qtags(w:World)(g:Nat)(p:Option Addr)(m c:Nat)(ks:List Int)(n:Int)(hg:Go.Boxed w g 39 (.slice p m c))(hr:Rd w 1 (.slice p m c) m (i64s ks))(hm:m≤10) :
  Calls Tryz.prog 160 #[.int .i64 n,.pointer (some ⟨g,0,none⟩)] w fun e w'=>∃p' c',e = .returned (.slice p' m c')∧rows.Own w' w.heap.size 97 2 (.slice p' m c') m (tagsC (ks.map fun k=>(k,n)))∧Below w.heap.size w w':=by
 have hkl:ks.length=m:=by have:=hr.cells;simpa [i64s] using this
 have hc:=hg.cell
 have HR:=ι hr
 have HK:=ι hkl
 have hmi:(m:Int)≤10:=by omega
 clear hg hr hkl
 go_enter Tryz.func160,Tryz.ntmps160
 go_wp2_with fail
 go_loopw [4,6,9] (fun ov _ iv wr=>∃(j:Nat) (q:Option Addr) (kc:Nat),j≤m∧iv = .int .i64 (j:Int)∧ov = .slice q j kc∧Hid (rows.Own wr w.heap.size 97 2 (.slice q j kc) j (tagsC ((ks.take j).map fun k=>(k,n))))∧Hid (Below w.heap.size w wr)) (fun _ _ iv _=>m-(intOf iv).toNat)
 case atStart=>exact⟨0,none,0,by omega,rfl,rfl,ι (a2l _ _ _ _),ι (Below.refl _ _)⟩
 case round =>
  obtain⟨j,q,kc,hj,rfl,rfl,HO,HB⟩:=hrel
  by_cases hlt:j<m
  ·have hlti:(j:Int)<m:=by omega
   obtain⟨b1,o1,rfl,hc1,hm1,hh1,hl1,HR1⟩:=(HR.out.later HB.out).at hlt
   have hr1:=HR1 j hlt
   have HX:Hid ((ks.take (j+1)).map (fun k=>(k,n))=(ks.take j).map (fun k=>(k,n))++[(ks.getD j 0,n)]):=ι (by
    have hjl:j<ks.length:=by rw[HK.out];exact hlt
    rw[List.take_succ_eq_append_getElem hjl,List.map_append]
    simp[hjl])
   generalize ks.getD j 0=x at *
   clear HR1 hl1
   go_wp2_with (first
    | (refine wpList_buildTo rfl ?_ ?_)
    | (refine a0m a2u (by decide) rfl (.tmp 16) rfl [.int .i64 x,.int .i64 n] rfl rfl ?_)
    | (at_builtin;refine a4n a2u rfl (.tmp 13) (.tmp 17) rfl w.heap.size _ j _ rfl (HO.out.alloc _) _ 1 [.int .i64 x,.int .i64 n] rfl (a1l _ 97 2 [.int .i64 x,.int .i64 n] rfl) (fun u hu=>by simp at hu;rcases hu with rfl|rfl<;>rfl) (by omega) (by have:=HB.out.size;simp;omega) ?_;intro pa ca wa ho hb;have HO6:Hid (rows.Own wa w.heap.size 97 2 (.slice pa (j+1) ca) (j+1) (tagsC ((ks.take (j+1)).map fun k=>(k,n)))):=ι (by rw[HX.out,c5e];exact ho);have B6:=ι (a4h (a0b HB.out _) hb (Nat.le_refl _));clear ho hb))
   go_roundw
   case rel=>exact⟨j+1,pa,ca,by omega,by go_num,rfl,HO6,B6⟩
   case measure=>simp[intOf];omega
  ·obtain rfl:j=m:=by omega
   go_wp2_with fail
   go_ret
   exact⟨q,kc,rfl,by have:=HO.out;rw[List.take_of_length_le (by rw[HK.out];exact Nat.le_refl _)] at this;exact this,HB.out⟩
end fs
namespace fs
set_option maxRecDepth 100000
open Go.ChangeShapes Go.WideShapes Go.ChangeAt Go.RowKit
open rows
open sec
open dsk (wf64 InS size_alloc St Wr Wr.c Wr.c_len w0 CA barrier tagsC csync cbarrier a6j a2z a6a AtW.parts)
open ly
open pa
open lk
open al
set_option maxRecDepth 100000 in
set_option maxHeartbeats 1600000 in
theorem qsettle(w:World)(G:Nat→Prop)(g:Nat)(a:Addr)(st:St)(hGl:∀b,G b→b<w.heap.size)(h:FsAt w G g (.pointer (some a)) st)(k:Nat)(hg:st.good k)(hk:k≤880)(hm:Mx w)(s:ByteArray)(hsz:s.size≤100000)(kind:Int)(gk:Nat)(p:Option Addr)(m c:Nat)(ks:List Int)(hgk:Go.Boxed w gk 39 (.slice p m c))(hr:Rd w 1 (.slice p m c) m (i64s ks))(hm10:m≤10)(hks:∀x∈ks,wf64 x) :
  Calls Tryz.prog 107 #[.pointer (some ⟨g,0,none⟩),.string s,.int .i64 kind,.func (.func 160) #[] #[.pointer (some ⟨gk,0,none⟩)]] w (PDone G g (.pointer (some a)) w (syncV st s kind ks)):=by
 have HK:=h.known hg (by omega)
 have hsec:=HK.dk.secs.1
 have HL:=ι (qlocate w g a (nowL st) s HK hm hsz)
 have HD:=ι fun w' (hb:Below w.heap.size w w')=>fdisk g _ w' (h.row.later hb)
 have hzf:=a3q hsec (bys s)
 have hkl:ks.length=m:=by have:=hr.cells;simpa [i64s] using this
 have hgkl:gk<w.heap.size:=(Array.getElem?_eq_some_iff.1 hgk).1
 obtain⟨V,hV⟩:∃V,syncV st s kind ks=V:=⟨_,rfl⟩
 rw[hV]
 unfold syncV at hV
 generalize lookV (nowL st) (bys s)=lv at *
 obtain⟨z,er⟩:=lv
 unfold lookT at HL
 simp only at HL hV hzf
 by_cases he:er=0
 ·subst he
  rw[if_neg (by simp)] at hV
  have hf1:=fieldI0 (inoAt (nowL st) z) (a1j hsec z)
  have HI:=ι fun w' (hb:Below w.heap.size w w')=>a7k w' _ (nowL st) z (HK.later hb).dk (a0g (by omega))
  generalize aggI (inoAt (nowL st) z)=yv at *
  obtain⟨kd,hkd⟩:∃kd,(inoAt (nowL st) z).kind=kd:=⟨_,rfl⟩
  rw[hkd] at hf1 hV
  by_cases hkk:kd=kind
  ·subst hkk
   have hne:(kd != kd)=false:=by simp
   rw[if_neg (by simp)] at hV
   subst hV
   have HT:=ι fun w' (hb:Below w.heap.size w w')=>qtags w' gk p m c ks z ((hb.block gk hgkl).trans hgk) (hr.later hb) hm10
   have HS:=ι fun w' (hb:Below w.heap.size w w') q cq (h2:Rd w' 2 (.slice q m cq) m (tagsC (ks.map fun k=>(k,z)))) (hin:InS (fun b=>¬G b) (.slice q m cq))=>csync w' G _ st q m cq _ (lk.CA.later' h.code hb) (hg.fine (by omega)) h2 hin (by omega) (fun t ht=>by
    obtain⟨x,hx,rfl⟩:=List.mem_map.1 ht
    exact⟨hks x hx,a0g (by omega)⟩)
   have HX:=ι h
   have HGL:=ι hGl
   clear h hGl HK hm hgk hr hks hzf hsec hkl
   go_enter Tryz.func107,Tryz.ntmps107
   go_wp2_with (first
    | (go_at_call 106;refine HL.out.mono ?_;rintro e w2 ⟨rfl,hb⟩;have B2:=ι hb;clear hb)
    | (go_at_call 146;refine(HI.out _ B2.out).mono ?_;rintro e w3 ⟨rfl,hb⟩;have B3:=ι (a0a B2.out hb);clear hb)
    | (go_at_call 160;refine(HT.out _ B3.out).mono ?_;rintro e w4 ⟨q,cq,rfl,ho,hb⟩;have B4:=ι (a0a B3.out hb);have O4:=ι ho;clear ho hb)
    | (go_at_call 159;refine(HS.out _ B4.out _ _ O4.out.rd ((dsk.a3i O4.out).mono fun b hb hG=>by have:=HGL.out b hG;have:=B3.out.size;have:=hb.1;omega)).mono ?_;rintro e w5 hd;have D5:=ι (b1g HX.out B4.out hd);obtain⟨rfl,_⟩:=hd)
    | (go_at_call 30;refine(HD.out _ B3.out).mono ?_;rintro e w6 ⟨rfl,hw⟩;obtain rfl:=hw.symm)
    | (go_at_call 30;refine(HD.out _ B2.out).mono ?_;rintro e w6 ⟨rfl,hw⟩;obtain rfl:=hw.symm))
   go_ret
   exact D5.out
  ·have hne:(kd != kind)=true:=by simpa using hkk
   rw[if_pos (by simpa using hkk)] at hV
   subst hV
   have HX:=ι h
   clear h hGl HK hm hgk hr hks hzf hsec hkl
   go_enter Tryz.func107,Tryz.ntmps107
   go_wp2_with (first
    | (go_at_call 106;refine HL.out.mono ?_;rintro e w2 ⟨rfl,hb⟩;have B2:=ι hb;clear hb)
    | (go_at_call 146;refine(HI.out _ B2.out).mono ?_;rintro e w3 ⟨rfl,hb⟩;have B3:=ι (a0a B2.out hb);clear hb)
    | (go_at_call 30;refine(HD.out _ B2.out).mono ?_;rintro e w6 ⟨rfl,hw⟩;obtain rfl:=hw.symm))
   go_ret
   exact a0q HX.out B3.out
 ·rw[if_pos he] at hV
  subst hV
  have hne:(er != 0)=true:=by simpa using he
  have HX:=ι h
  clear h hGl HK hm hgk hr hks hzf hsec hkl
  go_enter Tryz.func107,Tryz.ntmps107
  go_wp2_with (first
   | (go_at_call 106;refine HL.out.mono ?_;rintro e w2 ⟨rfl,hb⟩;have B2:=ι hb;clear hb))
  go_ret
  exact a0q HX.out B2.out
theorem a7n(w:World)(l:List Int)(hl:l.length≤10)(hl0:0<l.length):Go.Boxed ((w.alloc (.cells (i64s l).toArray 3)).alloc (.cells #[.slice (some ⟨w.heap.size,0,none⟩) l.length l.length] 39)) (w.heap.size+1) 39 (.slice (some ⟨w.heap.size,0,none⟩) l.length l.length)∧Rd ((w.alloc (.cells (i64s l).toArray 3)).alloc (.cells #[.slice (some ⟨w.heap.size,0,none⟩) l.length l.length] 39)) 1 (.slice (some ⟨w.heap.size,0,none⟩) l.length l.length) l.length (i64s l)∧Below w.heap.size w ((w.alloc (.cells (i64s l).toArray 3)).alloc (.cells #[.slice (some ⟨w.heap.size,0,none⟩) l.length l.length] 39)):=by
 have b1:=a0b (Below.refl w.heap.size w) (.cells (i64s l).toArray 3)
 have b2:=a0b (Below.refl (w.alloc (.cells (i64s l).toArray 3)).heap.size (w.alloc (.cells (i64s l).toArray 3))) (.cells #[.slice (some ⟨w.heap.size,0,none⟩) l.length l.length] 39)
 refine⟨?_,?_,a0a b1 b2⟩
 ·have:=heap_alloc_new (w.alloc (.cells (i64s l).toArray 3)) (.cells #[.slice (some ⟨w.heap.size,0,none⟩) l.length l.length] 39)
  rw[size_alloc] at this
  exact this
 ·refine Rd.later ?_ b2
  rcases l with _|⟨x,t⟩
  ·exact absurd hl0 (by simp)
  ·refine Or.inr ⟨w.heap.size,0,(x::t).length,rfl,by simp,Nat.le_refl _,by unfold maxLen;omega,by simp,by simp[i64s],fun i u hi => ?_⟩
   rw[World.cell?_alloc_mark,Nat.zero_add]
   simpa using hi
theorem b5e{l:List Int}(h:∀x∈l,0≤x∧x<256:=by decide):∀x∈l,wf64 x:=fun x hx=>a0g (h x hx)
set_option maxRecDepth 100000 in
theorem qfsync(w:World)(G:Nat→Prop)(g:Nat)(a:Addr)(st:St)(hGl:∀b,G b→b<w.heap.size)(h:FsAt w G g (.pointer (some a)) st)(k:Nat)(hg:st.good k)(hk:k≤880)(hm:Mx w)(s:ByteArray)(hsz:s.size≤100000) :
  Calls Tryz.prog 38 #[.pointer (some ⟨g,0,none⟩),.string s] w (PDone G g (.pointer (some a)) w (syncV st s 1 [1,2])):=by
 obtain⟨h1,h2,h3⟩:=a7n w [1,2] (by decide) (by decide)
 have HS:=ι (qsettle _ G g a st (fun b hb=>Nat.lt_of_lt_of_le (hGl b hb) h3.size) (h.later h3) k hg hk (hm.later h3) s hsz 1 _ _ 2 2 [1,2] h1 h2 (by decide) (b5e (by decide)))
 have B3:=ι h3
 have HX:=ι h
 clear h hGl hm h1 h2 h3
 go_enter Tryz.func38,Tryz.ntmps38
 go_wp2_with (first
  | (go_at_call 108;refine(qtagsof _ _ _ _).mono ?_;rintro e w2 ⟨rfl,hw⟩;subst hw)
  | (go_at_call 107;refine HS.out.mono ?_;rintro e w5 hd;have D5:=ι (a2r HX.out.row.lt HX.out.apart B3.out hd);obtain⟨rfl,_⟩:=hd))
 go_ret
 exact D5.out
set_option maxRecDepth 100000 in
theorem qfdata(w:World)(G:Nat→Prop)(g:Nat)(a:Addr)(st:St)(hGl:∀b,G b→b<w.heap.size)(h:FsAt w G g (.pointer (some a)) st)(k:Nat)(hg:st.good k)(hk:k≤880)(hm:Mx w)(s:ByteArray)(hsz:s.size≤100000) :
  Calls Tryz.prog 39 #[.pointer (some ⟨g,0,none⟩),.string s] w (PDone G g (.pointer (some a)) w (syncV st s 1 [1])):=by
 obtain⟨h1,h2,h3⟩:=a7n w [1] (by decide) (by decide)
 have HS:=ι (qsettle _ G g a st (fun b hb=>Nat.lt_of_lt_of_le (hGl b hb) h3.size) (h.later h3) k hg hk (hm.later h3) s hsz 1 _ _ 1 1 [1] h1 h2 (by decide) (b5e (by decide)))
 have B3:=ι h3
 have HX:=ι h
 clear h hGl hm h1 h2 h3
 go_enter Tryz.func39,Tryz.ntmps39
 go_wp2_with (first
  | (go_at_call 108;refine(qtagsof _ _ _ _).mono ?_;rintro e w2 ⟨rfl,hw⟩;subst hw)
  | (go_at_call 107;refine HS.out.mono ?_;rintro e w5 hd;have D5:=ι (a2r HX.out.row.lt HX.out.apart B3.out hd);obtain⟨rfl,_⟩:=hd))
 go_ret
 exact D5.out
set_option maxRecDepth 100000 in
theorem qsyncdir(w:World)(G:Nat→Prop)(g:Nat)(a:Addr)(st:St)(hGl:∀b,G b→b<w.heap.size)(h:FsAt w G g (.pointer (some a)) st)(k:Nat)(hg:st.good k)(hk:k≤880)(hm:Mx w)(s:ByteArray)(hsz:s.size≤100000) :
  Calls Tryz.prog 40 #[.pointer (some ⟨g,0,none⟩),.string s] w (PDone G g (.pointer (some a)) w (syncV st s 2 [3,2])):=by
 obtain⟨h1,h2,h3⟩:=a7n w [3,2] (by decide) (by decide)
 have HS:=ι (qsettle _ G g a st (fun b hb=>Nat.lt_of_lt_of_le (hGl b hb) h3.size) (h.later h3) k hg hk (hm.later h3) s hsz 2 _ _ 2 2 [3,2] h1 h2 (by decide) (b5e (by decide)))
 have B3:=ι h3
 have HX:=ι h
 clear h hGl hm h1 h2 h3
 go_enter Tryz.func40,Tryz.ntmps40
 go_wp2_with (first
  | (go_at_call 108;refine(qtagsof _ _ _ _).mono ?_;rintro e w2 ⟨rfl,hw⟩;subst hw)
  | (go_at_call 107;refine HS.out.mono ?_;rintro e w5 hd;have D5:=ι (a2r HX.out.row.lt HX.out.apart B3.out hd);obtain⟨rfl,_⟩:=hd))
 go_ret
 exact D5.out
theorem qbarrier(w:World)(G:Nat→Prop)(g:Nat)(a:Addr)(st:St)(h:FsAt w G g (.pointer (some a)) st)(k:Nat)(hg:st.good k)(hk:k≤880) :
  Calls Tryz.prog 41 #[.pointer (some ⟨g,0,none⟩)] w (PDone G g (.pointer (some a)) w (barrier st)):=by
 have HD:=ι (fdisk g _ w h.row)
 have HB:=ι (cbarrier w G _ st h.code (hg.fine (by omega)))
 have HX:=ι h
 clear h
 go_enter Tryz.func41,Tryz.ntmps41
 go_wp2_with (first
  | (go_at_call 30;refine HD.out.mono ?_;rintro e w6 ⟨rfl,hw⟩;obtain rfl:=hw.symm)
  | (go_at_call 109;refine HB.out.mono ?_;rintro e w5 hd;have D5:=ι (b1g HX.out (Below.refl _ _) hd);obtain⟨rfl,_⟩:=hd))
 go_ret
 exact D5.out
theorem b7a(ws:List Wr)(n:Int){j:Nat}(h:j<ws.length):cntW (ws.take (j+1)) n=cntW (ws.take j) n+if ws[j].id=n then 1 else 0:=by
 rw[cntW,cntW,List.take_succ_eq_append_getElem h,List.filter_append,List.length_append]
 congr 1
 by_cases hq:ws[j].id=n<;>simp[hq]
theorem c9u(ws:List Wr)(n:Int):cntW ws n≤ws.length:=List.length_filter_le ..
set_option maxRecDepth 100000 in
set_option maxHeartbeats 1600000 in
theorem qwaits(w:World)(G:Nat→Prop)(g:Nat)(a:Addr)(st:St)(h:FsAt w G g (.pointer (some a)) st)(k:Nat)(hg:st.good k)(hk:k≤880)(hm:Mx w)(s:ByteArray)(hsz:s.size≤100000) :
  Calls Tryz.prog 36 #[.pointer (some ⟨g,0,none⟩),.string s] w (Rt w (.tuple #[.int .i64 (waitsV st s).1,.int .i64 (waitsV st s).2])):=by
 have HK:=h.known hg (by omega)
 have hsec:=HK.dk.secs.1
 have HL:=ι (qlocate w g a (nowL st) s HK hm hsz)
 have HD:=ι fun w' (hb:Below w.heap.size w w')=>fdisk g _ w' (h.row.later hb)
 have HW:=ι fun w' (hb:Below w.heap.size w w')=>dsk.cwaitingO w' G _ st (lk.CA.later' h.code hb) (hg.fine (by omega))
 have HS:=ι fun x hx=>(hg.ws x hx).1
 have hml:st.wait.length≤880:=by have:=hg.wn;omega
 obtain⟨V,hV⟩:∃V,waitsV st s=V:=⟨_,rfl⟩
 rw[hV]
 unfold waitsV at hV
 generalize lookV (nowL st) (bys s)=lv at *
 obtain⟨z,er⟩:=lv
 unfold lookT at HL
 simp only at HL hV
 generalize st.wait=ws at *
 clear h HK hm hsec hg
 by_cases he:er=0
 ·subst he
  rw[if_neg (by simp)] at hV
  subst hV
  obtain⟨m,hwm⟩:∃m,ws.length=m:=⟨_,rfl⟩
  rw[hwm] at HW hml
  have HWL:=ι hwm
  have HLE:=ι (c9u ws z)
  clear hwm
  have hmi:(m:Int)≤880:=by omega
  have HWC:=ι fun x hx=>Wr.c_len (HS.out x hx)
  go_enter Tryz.func36,Tryz.ntmps36
  go_wp2_with (first
   | (go_at_call 106;refine HL.out.mono ?_;rintro e w2 ⟨rfl,hb⟩;have B2:=ι hb;clear hb)
   | (go_at_call 30;refine(HD.out _ B2.out).mono ?_;rintro e w6 ⟨rfl,hw⟩;obtain rfl:=hw.symm)
   | (go_at_call 46;refine(HW.out _ B2.out).mono ?_;rintro e w3 ⟨p,c,rfl,ho,hb⟩;have R3:=ι ho.rd;have B3:=ι (a0a B2.out hb);clear ho hb))
  go_loopw [8,24] (fun cv iv wr=>∃(j c:Nat),j≤m∧c≤j∧iv = .int .i64 (j:Int)∧cv = .int .i64 (c:Int)∧Hid (c=cntW (ws.take j) z)∧Hid (Below w3.heap.size w3 wr)) (fun _ iv _=>m-(intOf iv).toNat)
  case atStart=>exact⟨0,0,by omega,by omega,rfl,rfl,ι rfl,ι (Below.refl _ _)⟩
  case round =>
   obtain⟨j,c',hj,hc',rfl,rfl,HC,HB⟩:=hrel
   by_cases ha:j<m
   ·have ha1:(j:Int)<m:=by omega
    have hjl:j<ws.length:=by rw[HWL.out];exact ha
    obtain⟨b1,o1,rfl,hc1,hmm1,hh1,hl1,HR1⟩:=dsk.Rd.chunk Wr.c (R3.out.later HB.out) HWC.out (by decide) ha
    have HRG:=ι (HR1 j hjl)
    have HSX:=ι (HS.out _ (List.getElem_mem hjl))
    have HN:=ι (b7a ws z hjl)
    generalize ws[j]=x at *
    clear HR1 hl1
    by_cases hq:x.id=z
    ·have hqq:(x.id == z)=true:=by simpa using hq
     go_wp2_with (first|(refine a6j rfl (.tmp 26) rfl b1 (o1+j * 36) rfl x HSX.out HRG.out ?_)|(refine a2z rfl _ _ rfl rfl wr.heap.size x w0 rfl rfl HSX.out a0o (a6a wr) ?_;intro w5 hx5 hb5;have hbw:=ι (a0a HB.out ((a0b (Below.refl _ wr) _).trans hb5));clear hb5;obtain⟨_,_,_,c34,_⟩:=AtW.parts hx5 HSX.out;clear hx5))
     go_roundw
     case rel=>exact⟨j+1,c'+1,by omega,by omega,by go_num,by go_num,ι (by rw[HN.out,if_pos hq,HC.out]),hbw⟩
     case measure=>simp[intOf];omega
    ·have hqq:(x.id == z)=false:=by simpa using hq
     go_wp2_with (first|(refine a6j rfl (.tmp 26) rfl b1 (o1+j * 36) rfl x HSX.out HRG.out ?_)|(refine a2z rfl _ _ rfl rfl wr.heap.size x w0 rfl rfl HSX.out a0o (a6a wr) ?_;intro w5 hx5 hb5;have hbw:=ι (a0a HB.out ((a0b (Below.refl _ wr) _).trans hb5));clear hb5;obtain⟨_,_,_,c34,_⟩:=AtW.parts hx5 HSX.out;clear hx5))
     go_roundw
     case rel=>exact⟨j+1,c',by omega,by omega,by go_num,by go_num,ι (by rw[HN.out,if_neg hq,HC.out];rfl),hbw⟩
     case measure=>simp[intOf];omega
   ·obtain rfl:j=m:=by omega
    go_wp2_with fail
    go_ret2
    refine⟨?_,a0a B3.out HB.out⟩
    have:=HC.out
    rw[List.take_of_length_le (by rw[HWL.out];exact Nat.le_refl _)] at this
    subst this
    rfl
 ·rw[if_pos he] at hV
  subst hV
  have hne:(er != 0)=true:=by simpa using he
  go_enter Tryz.func36,Tryz.ntmps36
  go_wp2_with (first
   | (go_at_call 106;refine HL.out.mono ?_;rintro e w2 ⟨rfl,hb⟩;have B2:=ι hb;clear hb))
  go_ret2
  exact⟨rfl,B2.out⟩
end fs
namespace fs
set_option maxRecDepth 100000
open Go.ChangeShapes Go.WideShapes Go.ChangeAt Go.RowKit
open rows
open sec
open dsk (wf64 InS St Wr.c CA barrier cfail)
open ly
open pa
open lk
open al
def fDo7(st:St)(a:FAct):Int×St:=if a.kind=7 then (0,dsk.fail st a.bad) else fDo st a
def qDo(st:St)(a:FAct):Int×St :=
 if a.kind=8 then syncV st a.p 1 [1,2] else if a.kind=9 then syncV st a.p 1 [1] else if a.kind=10 then syncV st a.p 2 [3,2] else if a.kind=11 then barrier st else fDo7 st a
structure BadIn (w:World) (a:FAct) (p2:Option Addr) (n2 c2:Nat):Prop where
 rd:Rd w 1 (.slice p2 n2 c2) n2 (i64s a.bad)
 few:n2≤30
 wf:∀x∈a.bad,wf64 x
theorem BadIn.later{w w':World}{a:FAct}{p2:Option Addr}{n2 c2:Nat}(h:BadIn w a p2 n2 c2)(k:Below w.heap.size w w'):BadIn w' a p2 n2 c2:=⟨h.rd.later k,h.few,h.wf⟩
theorem BadIn.len{w:World}{a:FAct}{p2:Option Addr}{n2 c2:Nat}(h:BadIn w a p2 n2 c2):a.bad.length≤30:=by
 have:=h.rd.cells
 have h2:=h.few
 simp[i64s] at this
 omega
theorem b5u(d:Value)(w:World)(F:Nat→Prop)(f:Value)(st:St)(k:Nat)(s:ByteArray)(h:FI d w F f st)(hg:st.good k)(hk:k≤880)(hm:Mx w)(hs:s.size≤100000):Calls Tryz.prog 38 #[f,.string s] w (FDone (FI d) F f w (syncV st s 1 [1,2])):=by
 obtain⟨g,G,rfl,h2,h3,h4⟩:=h
 obtain⟨a,rfl⟩:=b1n h4.code
 exact(qfsync w _ g a st (fun b hb=>hb.2) (a1h h4) k hg hk hm s hs).mono fun e w' hd=>a4j h2 h3 hd
theorem d4e(d:Value)(w:World)(F:Nat→Prop)(f:Value)(st:St)(k:Nat)(s:ByteArray)(h:FI d w F f st)(hg:st.good k)(hk:k≤880)(hm:Mx w)(hs:s.size≤100000):Calls Tryz.prog 39 #[f,.string s] w (FDone (FI d) F f w (syncV st s 1 [1])):=by
 obtain⟨g,G,rfl,h2,h3,h4⟩:=h
 obtain⟨a,rfl⟩:=b1n h4.code
 exact(qfdata w _ g a st (fun b hb=>hb.2) (a1h h4) k hg hk hm s hs).mono fun e w' hd=>a4j h2 h3 hd
theorem b3l(d:Value)(w:World)(F:Nat→Prop)(f:Value)(st:St)(k:Nat)(s:ByteArray)(h:FI d w F f st)(hg:st.good k)(hk:k≤880)(hm:Mx w)(hs:s.size≤100000):Calls Tryz.prog 40 #[f,.string s] w (FDone (FI d) F f w (syncV st s 2 [3,2])):=by
 obtain⟨g,G,rfl,h2,h3,h4⟩:=h
 obtain⟨a,rfl⟩:=b1n h4.code
 exact(qsyncdir w _ g a st (fun b hb=>hb.2) (a1h h4) k hg hk hm s hs).mono fun e w' hd=>a4j h2 h3 hd
theorem c6h(d:Value)(w:World)(F:Nat→Prop)(f:Value)(st:St)(k:Nat)(h:FI d w F f st)(hg:st.good k)(hk:k≤880):Calls Tryz.prog 41 #[f] w (FDone (FI d) F f w (barrier st)):=by
 obtain⟨g,G,rfl,h2,h3,h4⟩:=h
 obtain⟨a,rfl⟩:=b1n h4.code
 exact(qbarrier w _ g a st (a1h h4) k hg hk).mono fun e w' hd=>a4j h2 h3 hd
theorem c2n(d:Value)(w:World)(F:Nat→Prop)(f:Value)(st:St)(k:Nat)(s:ByteArray)(h:FI d w F f st)(hg:st.good k)(hk:k≤880)(hm:Mx w)(hs:s.size≤100000):Calls Tryz.prog 36 #[f,.string s] w (Rt w (.tuple #[.int .i64 (waitsV st s).1,.int .i64 (waitsV st s).2])):=by
 obtain⟨g,G,rfl,h2,h3,h4⟩:=h
 obtain⟨a,rfl⟩:=b1n h4.code
 exact qwaits w _ g a st (a1h h4) k hg hk hm s hs
theorem fail_fi(d:Value)(w w1:World)(F:Nat→Prop)(f:Value)(st:St)(k:Nat)(zs:List Int)(p:Option Addr)(q c:Nat)(h:FI d w F f st)(hg:st.good k)(hk:k≤880)(hb:Below w.heap.size w w1)(hr:Rd w1 1 (.slice p q c) q (i64s zs))(hin:InS (fun b=>¬F b) (.slice p q c))(hq:q≤50)(hwz:∀x∈zs,wf64 x) :
  Calls Tryz.prog 80 #[d,.slice p q c] w1 fun e w'=>e = .returned (.tuple #[])∧FDone (FI d) F f w (0,dsk.fail st zs) (.returned (.int .i64 0)) w':=by
 obtain⟨g,G,rfl,h2,h3,h4⟩:=h
 have h5:=a1h h4
 refine(cfail w1 _ d st p q c zs (lk.CA.later' h5.code hb) (hg.fine (by omega)) hr (fun a n c' hv hn hh=>hin a n c' hv hn (h3 _ hh.1)) hq hwz).mono ?_
 rintro e w' ⟨rfl,hc,ht⟩
 exact⟨rfl,a4j h2 h3 (b1g h5 hb ⟨rfl,hc,ht⟩)⟩
set_option maxRecDepth 100000 in
set_option maxHeartbeats 1600000 in
theorem d1t(d:Value)(w:World)(F:Nat→Prop)(f:Value)(st:St)(k:Nat)(hf:FI d w F f st)(hg:st.good k)(hk:k≤880)(hm:Mx w)(a:FAct)(p1:Option Addr)(n1 c1:Nat)(p2:Option Addr)(n2 c2:Nat)(ha:ActIn w a (.slice p1 n1 c1) (.slice p2 n2 c2))(hin:InS (fun x=>¬F x) (.slice p1 n1 c1))(hb:BadIn w a p2 n2 c2)(hbin:InS (fun x=>¬F x) (.slice p2 n2 c2)) :
  Calls Tryz.prog 22 #[f,.agg (actC a (.slice p1 n1 c1) (.slice p2 n2 c2))] w (FDone (FI d) F f w (fDo7 st a)):=by
 by_cases h7:a.kind=7
 ·rw[fDo7,if_pos h7]
  obtain⟨kd,pp,qq,nn,bb,bad⟩:=a
  simp only at h7
  subst h7
  have B1:=ι (a0b (Below.refl w.heap.size w) (.cells #[.int .i64 7,.string pp,.string qq,.int .i64 nn,.slice p1 n1 c1,.slice p2 n2 c2] 41))
  have HX:=ι hf
  have HDI:=ι fun w' (hb:Below w.heap.size w w')=>sfsHas.disk d w' F f st k ((sfsIs d).later hf hb) hg hk
  have HFA:=ι fun w' (hb':Below w.heap.size w w')=>fail_fi d w w' F f st k bad p2 n2 c2 hf hg hk hb' (hb.rd.later hb') hbin (by have:=hb.few;omega) hb.wf
  clear hf hg hm ha hin hb hbin
  go_enter Tryz.func22,Tryz.ntmps22
  go_wp2_with fail
  go_region_with (first|(go_at_call 30;refine(HDI.out _ (by first|exact B1.out|exact B1.out.drew)).mono ?_;rintro e w2 ⟨rfl,hw⟩;obtain rfl:=hw.symm)|(go_at_call 80;refine(HFA.out _ (by first|exact B1.out|exact B1.out.drew)).mono ?_;rintro e w3 ⟨rfl,hd⟩;have D3:=ι hd;clear hd))
  go_wp2_with fail
  all_goals
   go_ret
   exact D3.out
 ·rw[fDo7,if_neg h7]
  exact ldo_any (sfsIs d) w F f st k hf hg hk hm a p1 n1 c1 p2 n2 c2 ha hin h7
end fs
namespace fs
set_option maxRecDepth 100000
open Go.ChangeShapes Go.WideShapes Go.ChangeAt Go.RowKit
open rows
open sec
open dsk (InS St w0 syncR leftUpto madeB topOf)
open ly
open pa
open lk
open al
set_option maxRecDepth 100000 in
set_option maxHeartbeats 3200000 in
theorem qdo_any(d:Value)(w:World)(F:Nat→Prop)(f:Value)(st:St)(k:Nat)(hf:FI d w F f st)(hg:st.good k)(hk:k≤880)(hm:Mx w)(a:FAct)(p1:Option Addr)(n1 c1:Nat)(p2:Option Addr)(n2 c2:Nat)(ha:ActIn w a (.slice p1 n1 c1) (.slice p2 n2 c2))(hin:InS (fun x=>¬F x) (.slice p1 n1 c1))(hb:BadIn w a p2 n2 c2)(hbin:InS (fun x=>¬F x) (.slice p2 n2 c2)) :
  Calls Tryz.prog 42 #[f,.agg (actC a (.slice p1 n1 c1) (.slice p2 n2 c2))] w (FDone (FI d) F f w (qDo st a)):=by
 have HB:=ι (a0b (Below.refl w.heap.size w) (.cells (actC a (.slice p1 n1 c1) (.slice p2 n2 c2)) 41))
 have HDO:=ι fun w' (hb':Below w.heap.size w w')=>d1t d w' F f st k ((sfsIs d).later hf hb') hg hk (hm.later hb') a p1 n1 c1 p2 n2 c2 (ha.later hb') hin (hb.later hb') hbin
 have hpz:=ha.p
 have H8:=ι fun w' (hb':Below w.heap.size w w')=>b5u d w' F f st k a.p ((sfsIs d).later hf hb') hg hk (hm.later hb') (by omega)
 have H9:=ι fun w' (hb':Below w.heap.size w w')=>d4e d w' F f st k a.p ((sfsIs d).later hf hb') hg hk (hm.later hb') (by omega)
 have H10:=ι fun w' (hb':Below w.heap.size w w')=>b3l d w' F f st k a.p ((sfsIs d).later hf hb') hg hk (hm.later hb') (by omega)
 have H11:=ι fun w' (hb':Below w.heap.size w w')=>c6h d w' F f st k ((sfsIs d).later hf hb') hg hk
 have HFR:=ι fun(w1:World) (r:Int×St) (e:Ending) (w':World) (hb:Below w.heap.size w w1) (h:FDone (FI d) F f w1 r e w')=>a3e (sfsIs d) hb h
 obtain⟨V,hV⟩:∃V,qDo st a=V:=⟨_,rfl⟩
 rw[hV]
 unfold qDo at hV
 clear hf hg hm ha hin hb hbin hpz
 obtain⟨kd,pp,qq,nn,bb,bad⟩:=a
 simp only at hV H8 H9 H10 HB
 by_cases h8:kd=8
 ·subst h8
  rw[if_pos rfl] at hV
  subst hV
  go_enter Tryz.func42,Tryz.ntmps42
  go_wp2_with (go_at_call 38;refine(H8.out _ HB.out).mono ?_;rintro e w2 hd;have D2:=ι (HFR.out _ _ _ _ HB.out hd);obtain⟨rfl,_⟩:=hd)
  go_ret
  exact D2.out
 have k8:(kd == 8)=false:=beq_eq_false_iff_ne.2 h8
 rw[if_neg h8] at hV
 by_cases h9:kd=9
 ·subst h9
  rw[if_pos rfl] at hV
  subst hV
  clear h8
  go_enter Tryz.func42,Tryz.ntmps42
  go_wp2_with (go_at_call 39;refine(H9.out _ HB.out).mono ?_;rintro e w2 hd;have D2:=ι (HFR.out _ _ _ _ HB.out hd);obtain⟨rfl,_⟩:=hd)
  go_ret
  exact D2.out
 have k9:(kd == 9)=false:=beq_eq_false_iff_ne.2 h9
 rw[if_neg h9] at hV
 by_cases h10:kd=10
 ·subst h10
  rw[if_pos rfl] at hV
  subst hV
  clear h8 h9
  go_enter Tryz.func42,Tryz.ntmps42
  go_wp2_with (go_at_call 40;refine(H10.out _ HB.out).mono ?_;rintro e w2 hd;have D2:=ι (HFR.out _ _ _ _ HB.out hd);obtain⟨rfl,_⟩:=hd)
  go_ret
  exact D2.out
 have k10:(kd == 10)=false:=beq_eq_false_iff_ne.2 h10
 rw[if_neg h10] at hV
 by_cases h11:kd=11
 ·subst h11
  rw[if_pos rfl] at hV
  subst hV
  clear h8 h9 h10
  go_enter Tryz.func42,Tryz.ntmps42
  go_wp2_with (go_at_call 41;refine(H11.out _ HB.out).mono ?_;rintro e w2 hd;have D2:=ι (HFR.out _ _ _ _ HB.out hd);obtain⟨rfl,_⟩:=hd)
  go_ret
  exact D2.out
 have k11:(kd == 11)=false:=beq_eq_false_iff_ne.2 h11
 rw[if_neg h11] at hV
 subst hV
 clear h8 h9 h10 h11
 go_enter Tryz.func42,Tryz.ntmps42
 go_wp2_with (go_at_call 22;refine(HDO.out _ HB.out).mono ?_;rintro e w2 hd;have D2:=ι (HFR.out _ _ _ _ HB.out hd);obtain⟨rfl,_⟩:=hd)
 go_ret
 exact D2.out
theorem c5v{st:St}{k:Nat}(h:st.good k)(ts:List (Int×Int))(hl:ts.length≤50):(syncR st ts).2.good (k+1):=by
 have ha1:=dsk.c4d h
 unfold syncR
 split
 ·exact ha1
 ·have hlen:(dsk.settle st.safe st.wait ts).1.length=st.safe.length:=dsk.a4e _ _ _
  refine⟨dsk.a5r _ _ _ h.ss fun x hx=>(h.ws x hx).1,by show (dsk.settle st.safe st.wait ts).1.length≤65;rw[hlen];exact h.n1,fun x hx => ?_,fun e he => ?_,?_,?_,h.bn,ha1.ep,ha1.asked⟩
  ·have:=h.ws x (dsk.a5i _ _ _ x hx)
   refine⟨this.1,this.2.1,?_⟩
   show x.pos<((dsk.settle st.safe st.wait ts).1.length:Int)
   rw[hlen];exact this.2.2
  ·rcases List.mem_append.1 he with he|he
   ·exact h.es e he
   ·rw[List.mem_singleton.1 he];exact⟨by show Sec w0.s;exact a0o,hl⟩
  ·have:=h.wn
   have h2:=dsk.a5l (madeB ts (topOf ts st.wait)) st.wait st.wait.length
   show (leftUpto _ _ _).length≤k+1
   omega
  ·have:=h.ln;simp;omega
theorem a5q{st:St}{k:Nat}(h:st.good k)(s:ByteArray)(kind:Int)(ks:List Int)(hl:ks.length≤50):(syncV st s kind ks).2.good (k+1):=by
 unfold syncV
 split
 ·exact a1b h (by omega)
 ·split
  ·exact a1b h (by omega)
  ·exact c5v h _ (by simpa using hl)
theorem d0z{st:St}{k:Nat}(h:st.good k)(zs:List Int)(hl:zs.length≤50):(dsk.fail st zs).good k :=
 ⟨h.ss,h.n1,h.ws,h.es,h.wn,h.ln,hl,h.ep,⟨by show (0:Int)≤0;omega,by show (0:Int)≤(k:Int);omega⟩⟩
theorem d0l{st:St}{k:Nat}(h:st.good k)(a:FAct)(hb:∀z∈a.b,0≤z∧z<256)(hbad:a.bad.length≤30):(fDo7 st a).2.good (k+10):=by
 unfold fDo7
 split
 ·exact a1b (d0z h _ (by omega)) (by omega)
 ·exact d4f h a hb
theorem d2w{st:St}{k:Nat}(h:st.good k)(a:FAct)(hb:∀z∈a.b,0≤z∧z<256)(hbad:a.bad.length≤30):(qDo st a).2.good (k+10):=by
 unfold qDo
 repeat' split
 ·exact a1b (a5q h _ _ _ (by simp)) (by omega)
 ·exact a1b (a5q h _ _ _ (by simp)) (by omega)
 ·exact a1b (a5q h _ _ _ (by simp)) (by omega)
 ·exact a1b (b0j h) (by omega)
 ·exact d0l h a hb hbad
end fs
namespace fs
set_option maxRecDepth 100000
open Go.ChangeShapes Go.WideShapes Go.ChangeAt Go.RowKit
open rows
open sec
open dsk (InS St st0)
open ly
open pa
open lk
open al
abbrev txS:ByteArray:={ data := #[47] }
def sqB:St:=(appendV stA txA [120]).2
def sqC:St:=(syncV sqB txA 1 [1,2]).2
def sqD:St:=(syncV sqC txS 2 [3,2]).2
theorem c9y:(appendV stA txA [120]).1=0:=by decide +kernel
theorem d4m:waitsV sqB txA=(3,0):=by decide +kernel
theorem d4b:(syncV sqB txA 1 [1,2]).1=0:=by decide +kernel
theorem kq_dir:(syncV sqC txS 2 [3,2]).1=0:=by decide +kernel
theorem kq_len:sqD.safe.length=65:=by decide +kernel
theorem kq_wait:sqD.wait.length=0:=by decide +kernel
theorem kq_not:(syncV sqD txS 1 [1,2]).1=6:=by decide +kernel
theorem kq_name:(cellsOf sqD.safe)[17 * 32+16]? = some (.int .u8 97):=by kernel_rfl
theorem kq_data:(cellsOf sqD.safe)[41 * 32]? = some (.int .u8 120):=by kernel_rfl
theorem gqB:sqB.good 20:=b0e goodA txA [120] (by decide)
theorem gqC:sqC.good 30:=a1b (a5q gqB txA 1 [1,2] (by decide)) (by decide)
theorem gqD:sqD.good 40:=a1b (a5q gqC txS 2 [3,2] (by decide)) (by decide)
theorem num12(z:Int)(w:World):Calls Tryz.prog 37 #[.int .i64 z] w fun e w'=>e = .returned (.int .i64 z)∧w'=w:=by
 go_enter Tryz.func37,Tryz.ntmps37
 go_wp2
 go_ret
 exact⟨rfl,rfl⟩
theorem rd_oneF(w:World)(e:TypeId)(fr:Nat×Nat)(a:Value):Rd (w.alloc (.cells #[a] e fr)) 1 (.slice (some ⟨w.heap.size,0,none⟩) 1 1) 1 [a]:=by
 refine Or.inr ⟨w.heap.size,0,1,rfl,by omega,Nat.le_refl _,by unfold maxLen;omega,by simp,by rfl,fun i u hi => ?_⟩
 rw[World.cell?_alloc_mark,Nat.zero_add]
 simpa using hi
theorem KF.of{d f:Value}{st:St}{w w':World}(h:FI d w' (fun b=>w.heap.size≤b∧b<w'.heap.size) f st){lo:Nat}(hl:lo≤w.heap.size):KF FI lo d f st w':=⟨_,h,fun b hb=>⟨Nat.le_trans hl hb.1,hb.2⟩⟩
set_option maxRecDepth 100000 in
set_option maxHeartbeats 6400000 in
theorem knows12(w:World)(hmx:Mx w) :
  Calls Tryz.prog 35 #[] w (Rt w (.bool true)):=by
 have HMX:=ι hmx
 have hq:=fun p w'=>dsk.b6e b6i p w'
 have HCR:=ι fun d w1 f (h:KF FI w.heap.size d f (st0 emptyImg) w1) (hb:Below w.heap.size w w1)=>h.elim fun F hF=>((sfsIs d).create w1 F f (st0 emptyImg) 0 txA hF.1 (a7t a3m (Nat.le_of_eq a4f)) (by decide) (hmx.later hb) (by decide)).mono fun e w' hd=>KF.done hb (Nat.le_refl _) hF.2 hd c6k
 have HAP:=ι fun d w1 f p c (h:KF FI w.heap.size d f stA w1) (hb:Below w.heap.size w w1) w2 (hb2:Below w1.heap.size w1 w2) (hr:Rd w2 1 (.slice p 1 c) 1 [.int .u8 120]) (hin:InS (fun b=>w1.heap.size≤b) (.slice p 1 c))=>h.elim fun F hF=>((sfsIs d).append w2 F f stA 10 txA p 1 c [120] ((sfsIs d).later hF.1 hb2) goodA (by decide) (hmx.later (a0a hb hb2)) (by decide) hr (fun a m c' hv hm hh=>by have h1:=hin a m c' hv hm;have h2:=(hF.2 _ hh).2;omega) (by decide) (by decide)).mono fun e w' hd=>KF.done (a0a hb hb2) (Nat.le_refl _) (fun b h=>⟨(hF.2 b h).1,Nat.lt_of_lt_of_le (hF.2 b h).2 hb2.size⟩) hd c9y
 have HWA:=ι fun d w1 f (h:KF FI w.heap.size d f sqB w1) (hb:Below w.heap.size w w1)=>h.elim fun F hF=>c2n d w1 F f sqB 20 txA hF.1 gqB (by decide) (hmx.later hb) (by decide)
 rw[d4m] at HWA
 have HFS:=ι fun d w1 f (h:KF FI w.heap.size d f sqB w1) (hb:Below w.heap.size w w1)=>h.elim fun F hF=>(b5u d w1 F f sqB 20 txA hF.1 gqB (by decide) (hmx.later hb) (by decide)).mono fun e w' hd=>KF.done hb (Nat.le_refl _) hF.2 hd d4b
 have HSD:=ι fun d w1 f (h:KF FI w.heap.size d f sqC w1) (hb:Below w.heap.size w w1)=>h.elim fun F hF=>(b3l d w1 F f sqC 30 txS hF.1 gqC (by decide) (hmx.later hb) (by decide)).mono fun e w' hd=>KF.done hb (Nat.le_refl _) hF.2 hd kq_dir
 have HNO:=ι fun d w1 f (h:KF FI w.heap.size d f sqD w1) (hb:Below w.heap.size w w1)=>h.elim fun F hF=>(b5u d w1 F f sqD 40 txS hF.1 gqD (by decide) (hmx.later hb) (by decide)).mono fun e w' hd=>KF.done hb (Nat.le_refl _) hF.2 hd kq_not
 have HDI:=ι fun d w1 f (h:KF FI w.heap.size d f sqD w1)=>h.elim fun F hF=>sfsHas.disk d w1 F f sqD 40 hF.1 gqD (by decide)
 have HSA:=ι fun d w1 f (h:KF FI w.heap.size d f sqD w1)=>h.elim fun F hF=>dsk.csafeO w1 F d sqD (sfsHas.code d w1 F f sqD hF.1) (gqD.fine (by decide))
 have HWT:=ι fun d w1 f (h:KF FI w.heap.size d f sqD w1)=>h.elim fun F hF=>dsk.cwaitingO w1 F d sqD (sfsHas.code d w1 F f sqD hF.1) (gqD.fine (by decide))
 rw[kq_len] at HSA
 rw[kq_wait] at HWT
 clear hmx
 go_enter Tryz.func35,Tryz.ntmps35
 go_upto_region 4 with(first|(go_at_call 28;refine(c4i _).mono ?_;rintro e w3 ⟨pe,ce,rfl,hre,hb3⟩;have RE:=ι hre;have B3:=ι hb3;clear hre hb3)|(go_at_call 27;refine(c9e sfsIs sfsHas _ pe ce RE.out).mono ?_;rintro e w4 ⟨af,d,rfl,hf,hb⟩;have K4:=ι (KF.of hf B3.out.size);have B4:=ι (a0a B3.out hb);clear hf hb))
 go_upto_region 5 with(first|(go_at_call 51;refine(HCR.out _ _ _ K4.out B4.out).mono ?_;rintro e w6 ⟨rfl,hk,hb⟩;have K6:=ι hk;have B6:=ι hb;clear hk hb;have hcb:=Lib.run_convert_bytes_const (P:=Tryz.prog) w6 38 5 #[.int .u8 120] 1 1 d1b c8c)|(go_at_call 78;refine(HAP.out _ _ _ _ _ K6.out B6.out _ (a0b (Below.refl _ _) _) (rd_oneF _ _ _ _) (fun a m c hv hm=>by cases hv;exact Nat.le_refl _)).mono ?_;rintro e w7 ⟨rfl,hk,hb⟩;have K7:=ι hk;have B7:=ι hb;clear hk hb))
 go_upto_region 6 with(go_at_call 36;refine(HWA.out _ _ _ K7.out B7.out).mono ?_;rintro e w8 ⟨rfl,hb⟩;have K8:=ι (K7.out.later sfsIs hb);have B8:=ι (a0a B7.out hb);clear hb)
 go_upto_region 7 with(first|(go_at_call 38;refine(HFS.out _ _ _ K8.out B8.out).mono ?_;rintro e w9 ⟨rfl,hk,hb⟩;have K9:=ι hk;have B9:=ι hb;clear hk hb)|(go_at_call 40;refine(HSD.out _ _ _ K9.out B9.out).mono ?_;rintro e w10 ⟨rfl,hk,hb⟩;have K10:=ι hk;have B10:=ι hb;clear hk hb))
 go_upto_region 8 with(first|(go_at_call 30;refine(HDI.out _ _ _ K10.out).mono ?_;rintro e wd ⟨rfl,hw⟩;obtain rfl:=hw)|(go_at_call 105;refine(HSA.out _ _ _ K10.out).mono ?_;rintro e w11 ⟨ps,cs,rfl,ho,hb⟩;have R11:=ι ho.rd;have K11:=ι (K10.out.later sfsIs hb);have B11:=ι (a0a B10.out hb);clear ho hb))
 obtain⟨bs,os,cap,hvs,hc1,hc2,hc3,hbs,_,hcell⟩:=R11.out.resolve_left (fun⟨_,_,_,h0,_⟩=>by omega)
 cases hvs
 have c17:=hcell _ _ kq_name
 have c41:=hcell _ _ kq_data
 rw[← Nat.add_assoc] at c17
 go_wp2_with (first|(go_at_call 37;refine(num12 _ _).mono ?_;rintro e wn ⟨rfl,hw⟩;obtain rfl:=hw.symm)|(go_at_call 30;refine(HDI.out _ _ _ K11.out).mono ?_;rintro e wd ⟨rfl,hw⟩;obtain rfl:=hw)|(go_at_call 46;refine(HWT.out _ _ _ K11.out).mono ?_;rintro e w12 ⟨pw,cw,rfl,ho,hb⟩;have K12:=ι (K11.out.later sfsIs hb);have B12:=ι (a0a B11.out hb);clear ho hb)|(go_at_call 38;refine(HNO.out _ _ _ K12.out B12.out).mono ?_;rintro e w13 ⟨rfl,hk,hb⟩;have B13:=ι hb;clear hk hb))
 go_ret
 exact⟨rfl,B13.out⟩
end fs
namespace fs
set_option maxRecDepth 100000
open Go.ChangeShapes Go.WideShapes Go.ChangeAt Go.RowKit
open rows
open sec
open dsk (Keeps grow St)
open ly
open pa
open lk
open al
theorem c5s{w:World}{p:Option Addr}{n c:Nat}{ss:List (List Int)}(hs:Secs ss)(hr:Rd w 32 (.slice p n c) n (cellsOf ss)):ss.length=n:=by
 have:=hr.cells
 rw[a1a hs] at this
 omega
structure QAt (lo:Nat) (d f:Value) (w:World) (F:Nat→Prop) (st:St) (k:Nat):Prop where
 fi:FI d w F f st
 good:st.good k
 inF:∀b,F b→lo≤b∧b<w.heap.size
theorem QAt.later{lo:Nat}{d f:Value}{w w':World}{F:Nat→Prop}{st:St}{k:Nat}(h:QAt lo d f w F st k)(hb:Below w.heap.size w w'):QAt lo d f w' F st k :=
 ⟨(sfsIs d).later h.fi hb,h.good,fun b hF=>⟨(h.inF b hF).1,Nat.lt_of_lt_of_le (h.inF b hF).2 hb.size⟩⟩
theorem QAt.kept{lo:Nat}{d f:Value}{w w':World}{F:Nat→Prop}{st:St}{k:Nat}(h:QAt lo d f w F st k)(hb:Keeps F w w'):QAt lo d f w' F st k :=
 ⟨(sfsIs d).kept _ _ _ _ _ h.fi hb,h.good,fun b hF=>⟨(h.inF b hF).1,Nat.lt_of_lt_of_le (h.inF b hF).2 hb.1⟩⟩
theorem QAt.done{lo:Nat}{d f:Value}{w w':World}{F:Nat→Prop}{st:St}{k m:Nat}(h:QAt lo d f w F st k)(hlo:lo≤w.heap.size){r:Int×St}{e:Ending}(D:FDone (FI d) F f w r e w')(hg:r.2.good m):QAt lo d f w' (grow F w w') r.2 m :=
 ⟨D.2.1,hg,fun b hb=>by
  have s:=D.2.2.size
  rcases hb with hb|hb
  ·have:=h.inF b hb;omega
  ·omega⟩
theorem AX.badIn{W:World}{x:AX}(h:x.ok W)(hl:x.light):BadIn W x.a x.p2 x.n2 x.c2:=⟨h.bad,hl.2.2.2,h.bw⟩
theorem qdo_at{lo:Nat}{d f:Value}{w:World}{F:Nat→Prop}{st:St}{k:Nat}(h:QAt lo d f w F st k)(hk:k≤880)(hm:Mx w)(x:AX){W:World}(hok:x.ok W)(hl:x.light)(hW:Below W.heap.size W w)(hlo:W.heap.size≤lo) :
  Calls Tryz.prog 42 #[f,.agg (actC x.a (.slice x.p1 x.n1 x.c1) (.slice x.p2 x.n2 x.c2))] w (FDone (FI d) F f w (qDo st x.a)) :=
 qdo_any d w F f st k h.fi h.good hk hm x.a x.p1 x.n1 x.c1 x.p2 x.n2 x.c2 ((AX.actIn hok hl).later hW) (fun a m c hv hn hF=>by
  have h1:=d5a hok.rd a m c hv hn
  have h2:=(h.inF _ hF).1
  omega) ((AX.badIn hok hl).later hW) (fun a m c hv hn hF=>by
  have h1:=d5a hok.bad a m c hv hn
  have h2:=(h.inF _ hF).1
  omega)
theorem c7j{st:St}{k:Nat}(h:st.good k){W:World}{x:AX}(hok:x.ok W)(hl:x.light):(qDo st x.a).2.good (k+10) :=
 d2w h _ hok.bb (AX.badIn hok hl).len
end fs
namespace fs
set_option maxRecDepth 100000
open Go.ChangeShapes Go.WideShapes Go.ChangeAt Go.RowKit
open rows
open sec
open dsk (a0c a0n InS a0m St Wr Wr.c Wr.c_len RefIs RefAt RefDone tagsC a2u a1l rsync)
open ly
open pa
open lk
open al
theorem c2t(w:World)(B:Nat)(hB:B≤w.heap.size)(k z:Int):rows.Own (w.alloc (.cells #[.int .i64 k,.int .i64 z] 97)) B 97 2 (.slice (some ⟨w.heap.size,0,none⟩) 1 1) 1 (tagsC [(k,z)]) :=
 ⟨rfl,Or.inr ⟨w.heap.size,1,_,rfl,hB,heap_alloc_new _ _,Nat.le_refl _,by decide,rfl,rfl⟩⟩
set_option maxRecDepth 100000 in
set_option maxHeartbeats 3200000 in
theorem rsyncF(S:Nat→Prop)(g:Nat)(st:St)(w:World)(h:RefIs w S g st)(k:Nat)(hg:st.good k)(hk:k≤880)(s:ByteArray)(hsz:s.size≤100000)(kind tag:Int)(mb:Bool) :
  Calls Tryz.prog 110 #[.pointer (some ⟨g,0,none⟩),.string s,.int .i64 kind,.int .i64 tag,.bool mb] w (RefDone S g w (syncV st s kind (if mb=true then [tag,2] else [tag]))):=by
 have hsec:=a3o hg
 have hn1:=hg.n1
 have HN:=ι (a6k h hg (by omega))
 have HL:=ι fun q c w' (hr:Rd w' 32 (.slice q st.safe.length c) st.safe.length (cellsOf (nowL st)))=>a5y q st.safe.length c (nowL st) w' hr hsec (by omega) s hsz
 have hzf:=a3q hsec (bys s)
 have hgl:g<w.heap.size:=by obtain⟨vs,vw,vl,vb,h⟩:=h;exact dsk.RefAt.lt h
 have HX:=ι h
 obtain⟨V,hV⟩:∃V,syncV st s kind (if mb=true then [tag,2] else [tag])=V:=⟨_,rfl⟩
 rw[hV]
 unfold syncV at hV
 have HS:=ι fun w' (hb:Below w.heap.size w w') q m c ts (ht:Rd w' 2 (.slice q m c) m (tagsC ts)) (hti:InS (· ≠ g) (.slice q m c)) (hq:m≤1000)=>rsync S g st w' (a0u h hb) (hg.fine (by omega)).few (by omega) (fun x hx=>(hg.ws x hx).2) q m c ts ht hti hq
 have HIN:=ι fun(i:Int) (hi:0≤i∧i≤255) q c w' (hr:Rd w' 32 (.slice q st.safe.length c) st.safe.length (cellsOf (nowL st)))=>a5h q st.safe.length c (nowL st) w' hr hsec (by omega) i (a0g (by omega))
 have H4:=fun i=>a1j hsec i
 generalize nowL st=L at *
 generalize st.safe.length=n at *
 generalize lookV L (bys s)=lv at *
 obtain⟨z,er⟩:=lv
 unfold lookT at HL
 simp only at HL hV hzf
 have HI:=ι (HIN.out z hzf)
 have hf1:=fieldI0 (inoAt L z) (H4 z)
 generalize aggI (inoAt L z)=yv at *
 obtain⟨kd,hkd⟩:∃kd,(inoAt L z).kind=kd:=⟨_,rfl⟩
 rw[hkd] at hf1 hV
 clear hg h hkd hsec HIN H4
 by_cases he:er=0
 ·subst he
  rw[if_neg (by simp)] at hV
  by_cases hkk:kd=kind
  ·subst hkk
   have hne:(kd != kd)=false:=by simp
   rw[if_neg (by simp)] at hV
   subst hV
   have HF:=ι fun(w1:World) (r:Int×St) (e:Ending) (w':World) (hb:Below w.heap.size w w1) (h:RefDone S g w1 r e w')=>a1n hb h
   cases mb with
   | false =>
    simp only[if_neg Bool.false_ne_true,List.map_cons,List.map_nil]
    go_enter Tryz.func110,Tryz.ntmps110
    go_wp2_with (first
     | (go_at_call 24;refine HN.out.mono ?_;rintro e w3 ⟨q,c,rfl,hr,hb⟩;have R3:=ι hr;have B3:=ι hb;clear hr hb)
     | (go_at_call 82;refine(HL.out _ _ _ R3.out).mono ?_;rintro e w4 ⟨rfl,hb⟩;have R4:=ι (R3.out.later hb);have B4:=ι (a0a B3.out hb);clear hb)
     | (go_at_call 73;refine(HI.out _ _ _ R4.out).mono ?_;rintro e w5 ⟨rfl,hb⟩;have B5:=ι (a0a B4.out hb);clear hb)
     | (refine a0m a2u (by decide) rfl (.tmp 34) rfl [.int .i64 tag,.int .i64 z] rfl rfl ?_)
     | (go_at_call 162;refine(HS.out _ (a0b B5.out _) _ _ _ [(tag,z)] (c2t w5 0 (Nat.zero_le _) tag z).rd (fun a m c hv hm=>by cases hv;show w5.heap.size≠g;have:=B5.out.size;omega) (by decide)).mono ?_;rintro e w6 hd;have D6:=ι (HF.out _ _ _ _ (a0b B5.out _) hd);obtain⟨rfl,_⟩:=hd))
    go_ret
    exact D6.out
   | true =>
    simp only[if_pos rfl,List.map_cons,List.map_nil]
    go_enter Tryz.func110,Tryz.ntmps110
    go_wp2_with (first
     | (go_at_call 24;refine HN.out.mono ?_;rintro e w3 ⟨q,c,rfl,hr,hb⟩;have R3:=ι hr;have B3:=ι hb;clear hr hb)
     | (go_at_call 82;refine(HL.out _ _ _ R3.out).mono ?_;rintro e w4 ⟨rfl,hb⟩;have R4:=ι (R3.out.later hb);have B4:=ι (a0a B3.out hb);clear hb)
     | (go_at_call 73;refine(HI.out _ _ _ R4.out).mono ?_;rintro e w5 ⟨rfl,hb⟩;have B5:=ι (a0a B4.out hb);clear hb)
     | (refine a0m a2u (by decide) rfl (.tmp 34) rfl [.int .i64 tag,.int .i64 z] rfl rfl ?_)
     | (refine a0m a2u (by decide) rfl (.tmp 39) rfl [.int .i64 2,.int .i64 z] rfl rfl ?_)
     | (at_builtin;refine a4n a2u rfl (.tmp 37) (.tmp 40) rfl w5.heap.size _ 1 _ rfl ((c2t w5 w5.heap.size (Nat.le_refl _) tag z).alloc _) _ 1 [.int .i64 2,.int .i64 z] rfl (a1l _ 97 2 [.int .i64 2,.int .i64 z] rfl) (fun u hu=>by simp at hu;rcases hu with rfl|rfl<;>rfl) (by omega) (by simp;omega) ?_;intro pa ca wa ho hb;have O6:Hid (rows.Own wa w5.heap.size 97 2 (.slice pa 2 ca) 2 (tagsC [(tag,z),(2,z)])):=ι ho;have B6:Hid (Below w.heap.size w wa):=ι (a4h (a0b (a0b B5.out _) _) hb (by have:=B5.out.size;exact this));clear ho hb)
     | (go_at_call 162;refine(HS.out _ B6.out _ _ _ [(tag,z),(2,z)] O6.out.rd ((dsk.a3i O6.out).mono fun b hb=>by have:=B5.out.size;have:=hb.1;omega) (by decide)).mono ?_;rintro e w6 hd;have D6:=ι (HF.out _ _ _ _ B6.out hd);obtain⟨rfl,_⟩:=hd))
    go_ret
    exact D6.out
  ·have hne:(kd != kind)=true:=by simpa using hkk
   rw[if_pos (by simpa using hkk)] at hV
   subst hV
   go_enter Tryz.func110,Tryz.ntmps110
   go_wp2_with (first
    | (go_at_call 24;refine HN.out.mono ?_;rintro e w3 ⟨q,c,rfl,hr,hb⟩;have R3:=ι hr;have B3:=ι hb;clear hr hb)
    | (go_at_call 82;refine(HL.out _ _ _ R3.out).mono ?_;rintro e w4 ⟨rfl,hb⟩;have R4:=ι (R3.out.later hb);have B4:=ι (a0a B3.out hb);clear hb)
    | (go_at_call 73;refine(HI.out _ _ _ R4.out).mono ?_;rintro e w5 ⟨rfl,hb⟩;have B5:=ι (a0a B4.out hb);clear hb))
   go_ret
   exact a0r HX.out B5.out
 ·rw[if_pos he] at hV
  subst hV
  have hne:(er != 0)=true:=by simpa using he
  go_enter Tryz.func110,Tryz.ntmps110
  go_wp2_with (first
   | (go_at_call 24;refine HN.out.mono ?_;rintro e w3 ⟨q,c,rfl,hr,hb⟩;have R3:=ι hr;have B3:=ι hb;clear hr hb)
   | (go_at_call 82;refine(HL.out _ _ _ R3.out).mono ?_;rintro e w4 ⟨rfl,hb⟩;have B4:=ι (a0a B3.out hb);clear hb))
  go_ret
  exact a0r HX.out B4.out
set_option maxRecDepth 100000 in
set_option maxHeartbeats 3200000 in
theorem rwaitsF(S:Nat→Prop)(g:Nat)(st:St)(w:World)(h:RefIs w S g st)(k:Nat)(hg:st.good k)(hk:k≤880)(s:ByteArray)(hsz:s.size≤100000) :
  Calls Tryz.prog 44 #[.pointer (some ⟨g,0,none⟩),.string s] w (Rt w (.tuple #[.int .i64 (waitsV st s).1,.int .i64 (waitsV st s).2])):=by
 have hsec:=a3o hg
 have hn1:=hg.n1
 have HN:=ι (a6k h hg (by omega))
 have HL:=ι fun q c w' (hr:Rd w' 32 (.slice q st.safe.length c) st.safe.length (cellsOf (nowL st)))=>a5y q st.safe.length c (nowL st) w' hr hsec (by omega) s hsz
 have HS:=ι fun x hx=>(hg.ws x hx).1
 have hml:st.wait.length≤880:=by have:=hg.wn;omega
 obtain⟨vs,vw,vl,vb,h⟩:=h
 have HRW:=ι h.row
 have HWT:=ι h.wait
 obtain⟨pw,cw,hvw⟩:∃pw cw,vw = .slice pw st.wait.length cw:=by
  rcases h.wait with⟨p,c,h1,h2,_⟩|⟨b,o,c,h1,_⟩
  ·exact⟨p,c,by rw[h1,h2]⟩
  ·exact⟨_,c,h1⟩
 obtain⟨V,hV⟩:∃V,waitsV st s=V:=⟨_,rfl⟩
 rw[hV]
 unfold waitsV at hV
 generalize nowL st=L at *
 generalize st.safe.length=n at *
 generalize lookV L (bys s)=lv at *
 obtain⟨z,er⟩:=lv
 unfold lookT at HL
 simp only at HL hV
 have hrow:=h.row
 clear hg h hsec
 by_cases he:er=0
 ·subst he
  rw[if_neg (by simp)] at hV
  subst hV
  generalize st.wait=ws at *
  obtain⟨m,hwm⟩:∃m,ws.length=m:=⟨_,rfl⟩
  rw[hwm] at hml hvw HWT
  subst hvw
  have HWL:=ι hwm
  have HLE:=ι (c9u ws z)
  clear hwm
  have hmi:(m:Int)≤880:=by omega
  have HWC:=ι fun x hx=>Wr.c_len (HS.out x hx)
  clear hrow
  go_enter Tryz.func44,Tryz.ntmps44
  go_wp2_with (first
   | (go_at_call 24;refine HN.out.mono ?_;rintro e w3 ⟨q,c,rfl,hr,hb⟩;have R3:=ι hr;have B3:=ι hb;clear hr hb)
   | (go_at_call 82;refine(HL.out _ _ _ R3.out).mono ?_;rintro e w4 ⟨rfl,hb⟩;have B4:=ι (a0a B3.out hb);clear hb))
  have hrow4:=a0n HRW.out B4.out (Array.getElem?_eq_some_iff.1 HRW.out).1
  have c1:=a0c hrow4 1 _ rfl
  have RW:=ι (HWT.out.later B4.out)
  clear hrow4
  go_loop [8,9] (fun cv iv=>∃(j c:Nat),j≤m∧c≤j∧iv = .int .i64 (j:Int)∧cv = .int .i64 (c:Int)∧Hid (c=cntW (ws.take j) z)) (fun _ iv=>m-(intOf iv).toNat)
  case atStart=>exact⟨0,0,by omega,by omega,rfl,rfl,ι rfl⟩
  case round =>
   obtain⟨j,c',hj,hc',rfl,rfl,HC⟩:=hrel
   by_cases ha:j<m
   ·have ha1:(j:Int)<m:=by omega
    have hjl:j<ws.length:=by rw[HWL.out];exact ha
    obtain⟨b1,o1,rfl,hc1,hmm1,hh1,hl1,HR1⟩:=dsk.Rd.chunk Wr.c RW.out HWC.out (by decide) ha
    have c34:=(dsk.a1y (HS.out _ (List.getElem_mem hjl)) (HR1 j hjl)).2.2.2.1
    have HNX:=ι (b7a ws z hjl)
    generalize ws[j]=x at *
    clear HR1 hl1
    by_cases hq:x.id=z
    ·have hqq:(x.id == z)=true:=by simpa using hq
     have HQ:=ι hq
     clear hq
     go_wp2_with fail
     go_round
     case rel=>exact⟨j+1,c'+1,by omega,by omega,by go_num,by go_num,ι (by rw[HNX.out,if_pos HQ.out,HC.out])⟩
     case measure=>simp[intOf];omega
    ·have hqq:(x.id == z)=false:=by simpa using hq
     go_wp2_with fail
     go_round
     case rel=>exact⟨j+1,c',by omega,by omega,by go_num,by go_num,ι (by rw[HNX.out,if_neg hq,HC.out];rfl)⟩
     case measure=>simp[intOf];omega
   ·obtain rfl:j=m:=by omega
    go_wp2_with fail
    go_ret2
    refine⟨?_,B4.out⟩
    have:=HC.out
    rw[List.take_of_length_le (by rw[HWL.out];exact Nat.le_refl _)] at this
    subst this
    rfl
 ·rw[if_pos he] at hV
  subst hV
  have hne:(er != 0)=true:=by simpa using he
  clear hrow
  go_enter Tryz.func44,Tryz.ntmps44
  go_wp2_with (first
   | (go_at_call 24;refine HN.out.mono ?_;rintro e w3 ⟨q,c,rfl,hr,hb⟩;have R3:=ι hr;have B3:=ι hb;clear hr hb)
   | (go_at_call 82;refine(HL.out _ _ _ R3.out).mono ?_;rintro e w4 ⟨rfl,hb⟩;have B4:=ι (a0a B3.out hb);clear hb))
  go_ret2
  exact⟨rfl,B4.out⟩
end fs
namespace fs
set_option maxRecDepth 100000
open Go.ChangeShapes Go.WideShapes Go.ChangeAt Go.RowKit
open rows
open sec
open dsk (wf64 St Wr RefIs RefDone syncR barrier rfail)
open ly
open pa
open lk
open al
theorem b4a(st:St)(i:Int)(s:List Int)(k id:Int):(dsk.writeR st i s k id).2.safe=st.safe:=by
 unfold dsk.writeR
 repeat' split
 all_goals rfl
theorem a5m:∀(ws:List Wr) (st:St),(doR st ws).2.safe=st.safe
 | [],st=>rfl
 | x::r,st=>by
  rw[doR]
  split
  ·exact b4a ..
  ·rw[a5m r,b4a]
theorem a8a(st:St):(barrier st).2.safe=st.safe:=by
 unfold barrier
 split<;>rfl
theorem d0m(st:St)(x y:Wr):(moveR st x y).2.safe=st.safe:=by
 unfold moveR
 repeat' split
 ·exact a5m ..
 ·rw[a8a,a5m]
 ·rw[a5m,a8a,a5m]
theorem d0x(st:St)(ts:List (Int×Int)):(syncR st ts).2.safe.length=st.safe.length:=by
 unfold syncR
 split
 ·rfl
 ·exact dsk.a4e _ _ _
theorem d0r(st:St)(s:ByteArray)(kind:Int)(ks:List Int):(syncV st s kind ks).2.safe.length=st.safe.length:=by
 unfold syncV
 repeat' split
 all_goals first|rfl|exact d0x ..
theorem b3n(st:St)(s:ByteArray)(off:Int)(b:List Int):(writeFV st s off b).2.safe.length=st.safe.length:=by
 unfold writeFV
 dsimp only
 repeat' split
 all_goals first|rfl|rw[a5m]
theorem fDo_len(st:St)(a:FAct):(fDo st a).2.safe.length=st.safe.length:=by
 unfold fDo
 repeat' split
 all_goals first
  | rfl
  | (
   unfold makeV
   repeat' split
   all_goals first|rfl|rw[a5m])
  | exact b3n ..
  | (
   unfold appendV
   split
   ·rfl
   ·exact b3n ..)
  | (
   unfold truncV
   repeat' split
   all_goals first|rfl|rw[a5m])
  | (
   unfold renameV
   dsimp only
   repeat' split
   all_goals first|rfl|rw[a5m]|rw[d0m])
  | (
   unfold unlinkV
   repeat' split
   all_goals first|rfl|rw[a5m])
theorem qDo_len(st:St)(a:FAct):(qDo st a).2.safe.length=st.safe.length:=by
 unfold qDo fDo7
 repeat' split
 all_goals first|exact d0r .. | (rw[a8a])|rfl|exact fDo_len ..
set_option maxRecDepth 100000 in
set_option maxHeartbeats 1600000 in
theorem rappend65(S:Nat→Prop)(g:Nat)(st:St)(w:World)(h:RefIs w S g st)(k:Nat)(hg:st.good k)(hk:k+10≤900)(h65:st.safe.length=65)(s:ByteArray)(hsz:s.size≤100000)(p:Option Addr)(m c:Nat)(b:List Int)(hb0:Rd w 1 (.slice p m c) m (b.map (Value.int .u8)))(hm:m≤300)(hbb:∀x∈b,0≤x∧x<256) :
  Calls Tryz.prog 17 #[.pointer (some ⟨g,0,none⟩),.string s,.slice p m c] w (RefDone S g w (appendV st s b)):=by
 have HR:=ι h
 have HN:=ι (a6k h hg (by omega))
 have hsec:=a3o hg
 have hn1:=hg.n1
 have HF:=ι fun q c w' (hr:Rd w' 32 (.slice q st.safe.length c) st.safe.length (cellsOf (nowL st)))=>b2l q st.safe.length c (nowL st) w' hr hsec (by omega) s hsz
 have H4:=ι (a3k hsec s)
 have hfi:=a6x hsec s
 have hok:=a8x hsec (fileV (nowL st) s).1
 have HW:=ι fun(off:Int) (ho:wf64 off) w1 (hb:Below w.heap.size w w1)=>b3j S g st w1 k s off p m c b (a0u h hb) hg hk h65 hsz ho (hb0.later hb) hm hbb
 clear h65
 obtain⟨V,hV⟩:∃V,appendV st s b=V:=⟨_,rfl⟩
 rw[hV]
 unfold appendV at hV
 generalize hFE:fileV (nowL st) s=F at *
 obtain⟨n,x,er⟩:=F
 unfold fileT at HF
 simp only at hV HF H4 hfi hok
 generalize nowL st=L at *
 generalize st.safe.length=sl at *
 clear h hg hk hsz hsec hFE hb0 hbb
 by_cases he:er=0
 ·subst he
  rw[if_neg (by simp)] at hV
  subst hV
  obtain⟨hx1,hx2,hx3,hx4⟩:=hfi rfl
  rw[← hx1] at hok
  have HOK:=ι hok.size
  clear hfi hx1 hok
  go_enter Tryz.func17,Tryz.ntmps17
  go_wp2_with (first|(go_at_call 24;refine HN.out.mono ?_;rintro e w1 ⟨q,c,rfl,hr,hb⟩;have R1:=ι hr;have B1:=ι hb;clear hr hb)|(go_at_call 68;refine(HF.out _ _ _ R1.out).mono ?_;rintro e w2 ⟨rfl,hb⟩;have B2:=ι (a0a B1.out hb);clear hb)|(refine a0j rfl (.tmp 8) (.tmp 16) rfl rfl w2.heap.size x ino0 rfl rfl H4.out rfl (a0y w2) ?_;intro w3 hA hB _;have B3:=ι (a0a B2.out ((a0b (Below.refl _ w2) _).trans hB));have c1:=hA.cell1;clear hA hB)|(go_at_call 16;refine(HW.out _ HOK.out _ B3.out).mono ?_;rintro e w4 hd;have D4:=ι (a1n B3.out hd);obtain⟨rfl,_⟩:=hd))
  go_ret
  exact D4.out
 ·rw[if_pos he] at hV
  subst hV
  have heb:(er != 0)=true:=by simpa using he
  clear hfi hok
  go_enter Tryz.func17,Tryz.ntmps17
  go_wp2_with (first|(go_at_call 24;refine HN.out.mono ?_;rintro e w1 ⟨q,c,rfl,hr,hb⟩;have R1:=ι hr;have B1:=ι hb;clear hr hb)|(go_at_call 68;refine(HF.out _ _ _ R1.out).mono ?_;rintro e w2 ⟨rfl,hb⟩;have B2:=ι (a0a B1.out hb);clear hb)|(refine a0j rfl (.tmp 8) (.tmp 16) rfl rfl w2.heap.size x ino0 rfl rfl H4.out rfl (a0y w2) ?_;intro w3 hA hB _;have B3:=ι (a0a B2.out ((a0b (Below.refl _ w2) _).trans hB));clear hA hB))
  go_ret
  exact a0r HR.out B3.out
set_option maxRecDepth 100000 in
set_option maxHeartbeats 6400000 in
theorem d1l(S:Nat→Prop)(g:Nat)(st:St)(w:World)(h:RefIs w S g st)(k:Nat)(hg:st.good k)(hk:k≤870)(h65:st.safe.length=65)(a:FAct)(p1:Option Addr)(n1 c1:Nat)(p2:Option Addr)(n2 c2:Nat)(ha:ActIn w a (.slice p1 n1 c1) (.slice p2 n2 c2))(hb:BadIn w a p2 n2 c2) :
  Calls Tryz.prog 43 #[.pointer (some ⟨g,0,none⟩),.agg (actC a (.slice p1 n1 c1) (.slice p2 n2 c2))] w (RefDone S g w (qDo st a)):=by
 have HB:=ι (a0b (Below.refl w.heap.size w) (.cells (actC a (.slice p1 n1 c1) (.slice p2 n2 c2)) 41))
 have HX:=ι h
 have hpz:=ha.p
 have hqz:=ha.q
 have hbl:n1≤300:=by have h1:=ha.bl;have h2:n1=a.b.length:=ha.rd.len;omega
 have hrl:n1=a.b.length:=ha.rd.len
 have hrd:Rd w 1 (.slice p1 n1 c1) n1 (a.b.map (Value.int .u8)):=by have:=ha.rd;rw[← hrl] at this;exact this
 have hb3:=hb.few
 have H0:=ι fun w' (hb':Below w.heap.size w w') (kind:Int) (hkd:0≤kind∧kind<256)=>c7z S g st w' (a0u h hb') k hg (by omega) a.p (by omega) kind hkd
 have H2:=ι fun w' (hb':Below w.heap.size w w')=>b3j S g st w' k a.p a.n p1 n1 c1 a.b (a0u h hb') hg (by omega) h65 (by omega) ha.n (hrd.later hb') hbl ha.bb
 have H3:=ι fun w' (hb':Below w.heap.size w w')=>rappend65 S g st w' (a0u h hb') k hg (by omega) h65 a.p (by omega) p1 n1 c1 a.b (hrd.later hb') hbl ha.bb
 have H4:=ι fun w' (hb':Below w.heap.size w w')=>c5q S g st w' (a0u h hb') k hg (by omega) a.p (by omega) a.n ha.n
 have H5:=ι fun w' (hb':Below w.heap.size w w')=>c1l S g st w' (a0u h hb') k hg (by omega) a.p a.q (by omega) (by omega)
 have H6:=ι fun w' (hb':Below w.heap.size w w')=>b9o S g st w' (a0u h hb') k hg (by omega) a.p (by omega)
 have H7:=ι fun w' (hb':Below w.heap.size w w')=>rfail S g st w' (a0u h hb') p2 n2 c2 a.bad (hb.rd.later hb') (by omega)
 have H8:=ι fun w' (hb':Below w.heap.size w w') (kind tag:Int) (mb:Bool)=>rsyncF S g st w' (a0u h hb') k hg (by omega) a.p (by omega) kind tag mb
 have H11:=ι fun w' (hb':Below w.heap.size w w')=>dsk.rbarrier S g st w' (a0u h hb') (hg.fine (by omega)).few
 have HFR:=ι fun(w1:World) (r:Int×St) (e:Ending) (w':World) (hb:Below w.heap.size w w1) (h:RefDone S g w1 r e w')=>a1n hb h
 obtain⟨V,hV⟩:∃V,qDo st a=V:=⟨_,rfl⟩
 rw[hV]
 unfold qDo fDo7 fDo at hV
 clear h hg ha hb hpz hqz hbl hrl hrd hb3 h65
 obtain⟨kd,pp,qq,nn,bb,bad⟩:=a
 simp only at hV H0 H2 H3 H4 H5 H6 H7 H8 HB
 by_cases h0:kd=0
 ·subst h0
  simp only[Int.reduceEq,if_true,if_false,ite_true,ite_false] at hV
  subst hV
  go_enter Tryz.func43,Tryz.ntmps43
  go_wp2_with (go_at_call 15;refine(H0.out _ HB.out 1 (by omega)).mono ?_;rintro e w2 hd;have D2:=ι (HFR.out _ _ _ _ HB.out hd);obtain⟨rfl,_⟩:=hd)
  go_ret
  exact D2.out
 have k0:(kd == 0)=false:=beq_eq_false_iff_ne.2 h0
 by_cases h1:kd=1
 ·subst h1
  simp only[Int.reduceEq,if_true,if_false,ite_true,ite_false] at hV
  subst hV
  clear h0
  go_enter Tryz.func43,Tryz.ntmps43
  go_wp2_with (go_at_call 15;refine(H0.out _ HB.out 2 (by omega)).mono ?_;rintro e w2 hd;have D2:=ι (HFR.out _ _ _ _ HB.out hd);obtain⟨rfl,_⟩:=hd)
  go_ret
  exact D2.out
 have k1:(kd == 1)=false:=beq_eq_false_iff_ne.2 h1
 by_cases h2:kd=2
 ·subst h2
  simp only[Int.reduceEq,if_true,if_false,ite_true,ite_false] at hV
  subst hV
  clear h0 h1
  go_enter Tryz.func43,Tryz.ntmps43
  go_wp2_with (go_at_call 16;refine(H2.out _ HB.out).mono ?_;rintro e w2 hd;have D2:=ι (HFR.out _ _ _ _ HB.out hd);obtain⟨rfl,_⟩:=hd)
  go_ret
  exact D2.out
 have k2:(kd == 2)=false:=beq_eq_false_iff_ne.2 h2
 by_cases h3:kd=3
 ·subst h3
  simp only[Int.reduceEq,if_true,if_false,ite_true,ite_false] at hV
  subst hV
  clear h0 h1 h2
  go_enter Tryz.func43,Tryz.ntmps43
  go_wp2_with (go_at_call 17;refine(H3.out _ HB.out).mono ?_;rintro e w2 hd;have D2:=ι (HFR.out _ _ _ _ HB.out hd);obtain⟨rfl,_⟩:=hd)
  go_ret
  exact D2.out
 have k3:(kd == 3)=false:=beq_eq_false_iff_ne.2 h3
 by_cases h4:kd=4
 ·subst h4
  simp only[Int.reduceEq,if_true,if_false,ite_true,ite_false] at hV
  subst hV
  clear h0 h1 h2 h3
  go_enter Tryz.func43,Tryz.ntmps43
  go_wp2_with (go_at_call 18;refine(H4.out _ HB.out).mono ?_;rintro e w2 hd;have D2:=ι (HFR.out _ _ _ _ HB.out hd);obtain⟨rfl,_⟩:=hd)
  go_ret
  exact D2.out
 have k4:(kd == 4)=false:=beq_eq_false_iff_ne.2 h4
 by_cases h5:kd=5
 ·subst h5
  simp only[Int.reduceEq,if_true,if_false,ite_true,ite_false] at hV
  subst hV
  clear h0 h1 h2 h3 h4
  go_enter Tryz.func43,Tryz.ntmps43
  go_wp2_with (go_at_call 19;refine(H5.out _ HB.out).mono ?_;rintro e w2 hd;have D2:=ι (HFR.out _ _ _ _ HB.out hd);obtain⟨rfl,_⟩:=hd)
  go_ret
  exact D2.out
 have k5:(kd == 5)=false:=beq_eq_false_iff_ne.2 h5
 by_cases h6:kd=6
 ·subst h6
  simp only[Int.reduceEq,if_true,if_false,ite_true,ite_false] at hV
  subst hV
  clear h0 h1 h2 h3 h4 h5
  go_enter Tryz.func43,Tryz.ntmps43
  go_wp2_with (go_at_call 20;refine(H6.out _ HB.out).mono ?_;rintro e w2 hd;have D2:=ι (HFR.out _ _ _ _ HB.out hd);obtain⟨rfl,_⟩:=hd)
  go_ret
  exact D2.out
 have k6:(kd == 6)=false:=beq_eq_false_iff_ne.2 h6
 by_cases h7:kd=7
 ·subst h7
  simp only[Int.reduceEq,if_true,if_false,ite_true,ite_false] at hV
  subst hV
  clear h0 h1 h2 h3 h4 h5 h6
  go_enter Tryz.func43,Tryz.ntmps43
  go_wp2_with (go_at_call 21;refine(H7.out _ HB.out).mono ?_;rintro e w2 ⟨rfl,hr,ht⟩;have D2:Hid (RefDone S g w (0,dsk.fail st bad) (.returned (.int .i64 0)) w2):=ι (HFR.out _ _ _ _ HB.out ⟨rfl,hr,ht⟩);clear hr ht)
  go_ret
  exact D2.out
 have k7:(kd == 7)=false:=beq_eq_false_iff_ne.2 h7
 by_cases h8:kd=8
 ·subst h8
  simp only[Int.reduceEq,if_true,if_false,ite_true,ite_false] at hV
  subst hV
  clear h0 h1 h2 h3 h4 h5 h6 h7
  go_enter Tryz.func43,Tryz.ntmps43
  go_wp2_with (go_at_call 110;refine(H8.out _ HB.out 1 1 true).mono ?_;rintro e w2 hd;have D2:=ι (HFR.out _ _ _ _ HB.out hd);obtain⟨rfl,_⟩:=hd)
  go_ret
  exact D2.out
 have k8:(kd == 8)=false:=beq_eq_false_iff_ne.2 h8
 by_cases h9:kd=9
 ·subst h9
  simp only[Int.reduceEq,if_true,if_false,ite_true,ite_false] at hV
  subst hV
  clear h0 h1 h2 h3 h4 h5 h6 h7 h8
  go_enter Tryz.func43,Tryz.ntmps43
  go_wp2_with (go_at_call 110;refine(H8.out _ HB.out 1 1 false).mono ?_;rintro e w2 hd;have D2:=ι (HFR.out _ _ _ _ HB.out hd);obtain⟨rfl,_⟩:=hd)
  go_ret
  exact D2.out
 have k9:(kd == 9)=false:=beq_eq_false_iff_ne.2 h9
 by_cases h10:kd=10
 ·subst h10
  simp only[Int.reduceEq,if_true,if_false,ite_true,ite_false] at hV
  subst hV
  clear h0 h1 h2 h3 h4 h5 h6 h7 h8 h9
  go_enter Tryz.func43,Tryz.ntmps43
  go_wp2_with (go_at_call 110;refine(H8.out _ HB.out 2 3 true).mono ?_;rintro e w2 hd;have D2:=ι (HFR.out _ _ _ _ HB.out hd);obtain⟨rfl,_⟩:=hd)
  go_ret
  exact D2.out
 have k10:(kd == 10)=false:=beq_eq_false_iff_ne.2 h10
 by_cases h11:kd=11
 ·subst h11
  simp only[Int.reduceEq,if_true,if_false,ite_true,ite_false] at hV
  subst hV
  clear h0 h1 h2 h3 h4 h5 h6 h7 h8 h9 h10
  go_enter Tryz.func43,Tryz.ntmps43
  go_wp2_with (go_at_call 75;refine(H11.out _ HB.out).mono ?_;rintro e w2 hd;have D2:=ι (HFR.out _ _ _ _ HB.out hd);obtain⟨rfl,_⟩:=hd)
  go_ret
  exact D2.out
 have k11:(kd == 11)=false:=beq_eq_false_iff_ne.2 h11
 rw[if_neg h8,if_neg h9,if_neg h10,if_neg h11,if_neg h7,if_neg h0,if_neg h1,if_neg h2,if_neg h3,if_neg h4,if_neg h5,if_neg h6] at hV
 subst hV
 clear h0 h1 h2 h3 h4 h5 h6 h7 h8 h9 h10 h11
 go_enter Tryz.func43,Tryz.ntmps43
 go_wp2_with fail
 go_ret
 exact a0r HX.out HB.out
end fs
namespace fs
set_option maxRecDepth 100000
open Go.ChangeShapes Go.WideShapes Go.ChangeAt Go.RowKit
open rows
open sec
open dsk (ubarrier)
open ly
open lk
def NoFs(w:World)(f:Value):Prop:=f = .pointer none∨∃g,f = .pointer (some ⟨g,0,none⟩)∧w.cell? ⟨g,0,none⟩=some (.pointer none)∧g<w.heap.size
theorem NoFs.later{w w':World}{f:Value}(h:NoFs w f)(hb:Below w.heap.size w w'):NoFs w' f:=by
 rcases h with h|⟨g,h1,h2,h3⟩
 ·exact Or.inl h
 ·exact Or.inr ⟨g,h1,by rw[hb.cell (p:=⟨g,0,none⟩) h3];exact h2,Nat.lt_of_lt_of_le h3 hb.size⟩
theorem ndisk{w:World}{f:Value}(h:NoFs w f):Calls Tryz.prog 30 #[f] w fun e w'=>e = .returned (.pointer none)∧w'=w:=by
 rcases h with rfl|⟨g,rfl,hc,hl⟩
 ·go_enter Tryz.func30,Tryz.ntmps30
  go_wp2_with (go_at_call 87;refine(d0k _).mono ?_;rintro e w0 ⟨rfl,rfl⟩)
  go_ret
  exact⟨rfl,rfl⟩
 ·have HM:=ι (d2z g w hc)
  clear hc
  go_enter Tryz.func30,Tryz.ntmps30
  go_wp2_with (go_at_call 87;refine HM.out.mono ?_;rintro e w0 ⟨rfl,rfl⟩)
  go_ret
  exact⟨rfl,rfl⟩
theorem nlocate{w:World}{f:Value}(h:NoFs w f)(s:ByteArray):Calls Tryz.prog 106 #[f,.string s] w fun e w'=>e = .returned (.tuple #[.int .i64 0,.int .i64 1])∧w'=w:=by
 have HD:=ι (ndisk h)
 have hq:=fun w'=>dsk.b6e c9k none w'
 clear h
 go_enter Tryz.func106,Tryz.ntmps106
 go_wp2_with (go_at_call 30;refine HD.out.mono ?_;rintro e w1 ⟨rfl,hw⟩;obtain rfl:=hw.symm)
 go_ret2
 exact⟨rfl,rfl⟩
theorem nsettle{w:World}{f:Value}(h:NoFs w f)(s:ByteArray)(kind:Int)(v:Value):Calls Tryz.prog 107 #[f,.string s,.int .i64 kind,v] w fun e w'=>e = .returned (.int .i64 1)∧w'=w:=by
 have HL:=ι (nlocate h s)
 clear h
 go_enter Tryz.func107,Tryz.ntmps107
 go_wp2_with (go_at_call 106;refine HL.out.mono ?_;rintro e w1 ⟨rfl,hw⟩;obtain rfl:=hw.symm)
 go_ret
 exact⟨rfl,rfl⟩
theorem nwaits{w:World}{f:Value}(h:NoFs w f)(s:ByteArray):Calls Tryz.prog 36 #[f,.string s] w fun e w'=>e = .returned (.tuple #[.int .i64 0,.int .i64 1])∧w'=w:=by
 have HL:=ι (nlocate h s)
 clear h
 go_enter Tryz.func36,Tryz.ntmps36
 go_wp2_with (go_at_call 106;refine HL.out.mono ?_;rintro e w1 ⟨rfl,hw⟩;obtain rfl:=hw.symm)
 go_ret2
 exact⟨rfl,rfl⟩
theorem nfsync{w:World}{f:Value}(h:NoFs w f)(s:ByteArray):Calls Tryz.prog 38 #[f,.string s] w (Rt w (.int .i64 1)):=by
 obtain⟨h1,h2,h3⟩:=a7n w [1,2] (by decide) (by decide)
 have HS:=ι fun v=>nsettle (h.later h3) s 1 v
 have B3:=ι h3
 clear h h1 h2 h3
 go_enter Tryz.func38,Tryz.ntmps38
 go_wp2_with (first
  | (go_at_call 108;refine(qtagsof _ _ _ _).mono ?_;rintro e w2 ⟨rfl,hw⟩;subst hw)
  | (go_at_call 107;refine(HS.out _).mono ?_;rintro e w5 ⟨rfl,hw⟩;subst hw))
 go_ret
 exact⟨rfl,B3.out⟩
theorem nfdata{w:World}{f:Value}(h:NoFs w f)(s:ByteArray):Calls Tryz.prog 39 #[f,.string s] w (Rt w (.int .i64 1)):=by
 obtain⟨h1,h2,h3⟩:=a7n w [1] (by decide) (by decide)
 have HS:=ι fun v=>nsettle (h.later h3) s 1 v
 have B3:=ι h3
 clear h h1 h2 h3
 go_enter Tryz.func39,Tryz.ntmps39
 go_wp2_with (first
  | (go_at_call 108;refine(qtagsof _ _ _ _).mono ?_;rintro e w2 ⟨rfl,hw⟩;subst hw)
  | (go_at_call 107;refine(HS.out _).mono ?_;rintro e w5 ⟨rfl,hw⟩;subst hw))
 go_ret
 exact⟨rfl,B3.out⟩
theorem nsyncdir{w:World}{f:Value}(h:NoFs w f)(s:ByteArray):Calls Tryz.prog 40 #[f,.string s] w (Rt w (.int .i64 1)):=by
 obtain⟨h1,h2,h3⟩:=a7n w [3,2] (by decide) (by decide)
 have HS:=ι fun v=>nsettle (h.later h3) s 2 v
 have B3:=ι h3
 clear h h1 h2 h3
 go_enter Tryz.func40,Tryz.ntmps40
 go_wp2_with (first
  | (go_at_call 108;refine(qtagsof _ _ _ _).mono ?_;rintro e w2 ⟨rfl,hw⟩;subst hw)
  | (go_at_call 107;refine(HS.out _).mono ?_;rintro e w5 ⟨rfl,hw⟩;subst hw))
 go_ret
 exact⟨rfl,B3.out⟩
theorem nbarrier{w:World}{f:Value}(h:NoFs w f):Calls Tryz.prog 41 #[f] w (Rt w (.int .i64 1)):=by
 have HD:=ι (ndisk h)
 clear h
 go_enter Tryz.func41,Tryz.ntmps41
 go_wp2_with (first
  | (go_at_call 30;refine HD.out.mono ?_;rintro e w1 ⟨rfl,hw⟩;obtain rfl:=hw.symm)
  | (go_at_call 109;refine(ubarrier (Or.inl rfl)).mono ?_;rintro e w2 ⟨rfl,hb⟩;have B2:=ι hb;clear hb))
 go_ret
 exact⟨rfl,B2.out⟩
end fs
namespace fs
set_option maxRecDepth 100000
open Go.ChangeShapes Go.WideShapes Go.ChangeAt Go.RowKit
open rows
open sec
open dsk (a0c a0n Keeps grow size_alloc St Wr.c CA st0 a8z c3j RefIs RefDone b8x c3g a0k a3l b4l)
open ly
open pa
open lk
open al
structure PAt (lo:Nat) (d f:Value) (g:Nat) (w:World) (F S:Nat→Prop) (st:St) (k:Nat):Prop where
 q:QAt lo d f w F st k
 ref:RefIs w S g st
 inS:∀b,S b→lo≤b∧b<w.heap.size
 apart:∀b,F b→¬S b
 len:st.safe.length=65
theorem b2i{w:World}{S:Nat→Prop}{g:Nat}{st:St}(h:RefIs w S g st):S g:=by
 obtain⟨vs,vw,vl,vb,h⟩:=h
 exact h.own
theorem PAt.later{lo:Nat}{d f:Value}{g:Nat}{w w':World}{F S:Nat→Prop}{st:St}{k:Nat}(h:PAt lo d f g w F S st k)(hb:Below w.heap.size w w'):PAt lo d f g w' F S st k :=
 ⟨h.q.later hb,a0u h.ref hb,fun b hS=>⟨(h.inS b hS).1,Nat.lt_of_lt_of_le (h.inS b hS).2 hb.size⟩,h.apart,h.len⟩
theorem PAt.mid{lo:Nat}{d f:Value}{g:Nat}{w w1:World}{F S:Nat→Prop}{st:St}{k:Nat}(h:PAt lo d f g w F S st k){r:Int×St}{e:Ending}(D:FDone (FI d) F f w r e w1):RefIs w1 S g st :=
 b4l h.ref (D.2.2.keeps fun b hS hF=>h.apart b hF hS)
theorem PAt.step{lo:Nat}{d f:Value}{g:Nat}{w w1 w2:World}{F S:Nat→Prop}{st:St}{k m:Nat}(h:PAt lo d f g w F S st k)(hlo:lo≤w.heap.size){r:Int×St}{e e2:Ending}(D:FDone (FI d) F f w r e w1)(R:RefDone S g w1 r e2 w2)(hg:r.2.good m)(hl:r.2.safe.length=65):PAt lo d f g w2 (grow F w w1) (grow S w1 w2) r.2 m:=by
 have s1:=D.2.2.size
 have s2:=R.2.2.size
 have hgS:=h.inS g (b2i h.ref)
 refine⟨(h.q.done hlo D hg).kept (R.2.2.keeps fun b hF hb => ?_),R.2.1,fun b hb => ?_,fun b hF hS => ?_,hl⟩
 ·subst hb
  rcases hF with hF|hF
  ·exact h.apart _ hF (b2i h.ref)
  ·omega
 ·rcases hb with hb|hb
  ·have:=h.inS b hb;omega
  ·omega
 ·rcases hF with hF|hF
  ·rcases hS with hS|hS
   ·exact h.apart b hF hS
   ·have:=(h.q.inF b hF).2;omega
  ·rcases hS with hS|hS
   ·have:=(h.inS b hS).2;omega
   ·omega
theorem b8q{w:World}{sz:Nat}{v:Value}{n:Nat}{cs:List Value}(h:Rd w sz v n cs):∃p c,v = .slice p n c:=by
 rcases h with⟨p,c,h1,h2,_⟩|⟨b,o,c,h1,_⟩
 ·exact⟨p,c,by rw[h1,h2]⟩
 ·exact⟨_,c,h1⟩
theorem c8i{ops:Array Oper}{S:World→Prop}{op:Oper}{a:Go.Act}(hw:Region.wanted op (yielded ops a.tmps)=true)(x:Operand)(ho:op.op = .load 41 x)
  (b o:Nat) (hx:a.eval x = .pointer (some ⟨b,o,none⟩)) (y:AX) (hS:∀w,S w→w.rangeAt b o y.c):YieldsIf Tryz.prog ops S op (.agg (actC y.a (.slice y.p1 y.n1 y.c1) (.slice y.p2 y.n2 y.c2))) a :=
 yieldsIf_load_mid hw _ x ho b o hx y.c _ hS c3v rfl (by rw[d3c];rfl)
theorem c9v:Tryz.prog.underlying 52=some (.slice 143):=by kernel_rfl
theorem c6x:Tryz.prog.underlying 54=some (.slice 99):=by kernel_rfl
theorem c3n(w:World):NoFs (w.alloc (.cells #[.pointer none,.pointer none] 77)) (.pointer (some ⟨w.heap.size,0,none⟩)) :=
 Or.inr ⟨w.heap.size,rfl,by rw[World.cell?_alloc_new];rfl,by rw[size_alloc];omega⟩
set_option maxRecDepth 100000 in
set_option maxHeartbeats 16000000 in
theorem b5r(w:World)(p:Option Addr)(n c:Nat)(ss:List (List Int))(hss:Secs ss)(hr:Rd w 32 (.slice p n c) n (cellsOf ss))(hnm:n≤maxLen)(q:Option Addr)(m cq:Nat)(l:List AX)(hlr:Rd w 6 (.slice q m cq) m ((l.map AX.c).flatten))(hmm:m≤maxLen)(hok:∀a∈l,a.ok w)(hmx:Mx w) :
  Calls Tryz.prog 5 #[.slice p n c,.slice q m cq] w (Rt w (.bool true)):=by
 have HLI:=ι (c3x q m cq 30 l w (by decide) (Below.refl _ _) hok hlr hmm)
 have HK:=ι fun w' (hb:Below w.heap.size w w')=>knows12 w' (hmx.later hb)
 have HRS:=ι fun w' (hb:Below w.heap.size w w')=>hr.later hb
 have HMX:=ι hmx
 have HOK:=ι hok
 have HR:=ι hlr
 have HSS:=ι hss
 have HLN:=ι (c5s hss hr)
 have HNU:=ι fun z w'=>num12 z w'
 have hq:=fun p w'=>dsk.b6e b6i p w'
 have hn9:(n:Int)≤9223372036854775807:=by unfold maxLen at hnm;omega
 have hm9:(m:Int)≤9223372036854775807:=by unfold maxLen at hmm;omega
 clear hss hr hlr hok hmx
 by_cases hn2:n≤200
 ·have d1:decide ((200:Int)<n)=false:=by simp;omega
  go_enter Tryz.func5,Tryz.ntmps5
  go_wp2_with fail
  refine HLI.out.mono ?_
  rintro e w1 ⟨b,rfl,rfl,hb⟩
  clear HLI
  cases b with
  | false =>
   clear hb
   go_wp2_with (go_at_call 35;refine(HK.out _ (Below.refl _ _)).mono ?_;rintro e w2 ⟨rfl,hb2⟩)
   go_ret
   exact⟨rfl,hb2⟩
  | true =>
   obtain⟨hn30,hli⟩:=hb rfl
   have HLL:=ι hli
   clear hb hli
   go_upto_region 3 with(go_at_call 35;refine(HK.out _ (Below.refl _ _)).mono ?_;rintro e w2 ⟨rfl,hb2⟩;have B2:=ι hb2;clear hb2)
   by_cases h65:1≤n∧n≤65
   ·have HCF:=ι (a8z w2 p n c ss HSS.out (HRS.out _ B2.out) h65.1 h65.2)
    have HRF:=ι fun w' (hb:Below w.heap.size w w')=>b8x p n c ss w' HSS.out (HRS.out _ hb) h65.1 h65.2
    by_cases hmb:mountsB ss=true
    ·have hss65:ss.length=65:=by rw[mountsB,Bool.and_eq_true,decide_eq_true_eq] at hmb;omega
     have HM:=ι fun w1 F d (h:CA w1 F d (st0 ss))=>sfsHas.mount w1 F d (st0 ss) 0 h (a7t HSS.out (by omega)) (by decide) (by
      unfold mountV
      rw[d0v,hmb,if_neg (show ¬(st0 ss).safe.length=0 by show ¬ss.length=0;omega),if_pos rfl])
     have HSL:=ι hss65
     clear h65 hss65 hmb
     go_upto_region 10 with(first
      | (go_at_call 9;refine HCF.out.mono ?_;rintro e w3 ⟨ad,rfl,hc,hb⟩;have HCA:=ι hc;have B23:=ι hb;have B3:=ι (a0a B2.out hb);clear hc hb)
      | (go_at_call 10;refine(HRF.out _ B3.out).mono ?_;rintro e w4 ⟨g,gs,rfl,h1,h2,h3,h4,h5,hb⟩;have B34:=ι hb;have B4:=ι (a0a B3.out hb);have HCA4:=ι (dsk.b2f _ _ _ _ _ HCA.out (Keeps.of_below hb));have G1:=ι h1;have G2:=ι h2;have G3:=ι h3;have G4:=ι h4;have G5:=ι h5;clear hb h1 h2 h3 h4 h5)
      | (go_at_call 11;refine(HM.out _ _ _ HCA4.out).mono ?_;rintro e w5 ⟨af,rfl,hf,hb⟩;have B45:=ι hb;have B5:=ι (a0a B4.out hb);have HF5:=ι hf;clear hb hf))
     have P0:Hid (PAt w.heap.size (.pointer (some ad)) (.pointer (some af)) g w5 (grow (fun b=>w2.heap.size≤b∧b<w3.heap.size) w4 w5) (fun b=>w3.heap.size≤b∧b<w4.heap.size) (st0 ss) (10 * 0)):=ι (by
      have s2:=B2.out.size
      have s3:=B23.out.size
      have s4:=B34.out.size
      have s5:=B45.out.size
      have hgl:g<w4.heap.size:=(Array.getElem?_eq_some_iff.1 G5.out).1
      have hgsl:gs<w4.heap.size:=(Array.getElem?_eq_some_iff.1 G4.out).1
      have hg1:=G1.out
      have hg2:=G2.out
      have hg3:=G3.out
      refine⟨⟨HF5.out,a7t HSS.out (by have:=HSL.out;omega),fun b hb=>by rcases hb with hb|hb<;>omega⟩,a0u ⟨_,_,_,_,G5.out,⟨hg2,hgl⟩,?_,?_,a2n _ _,dsk.a8d _,⟨[],rfl,a2n _ _,dsk.a8d _,fun i hi=>absurd hi (Nat.not_lt_zero _)⟩,a2n _ _,dsk.a8d _⟩ B45.out,fun b hb=>by omega,fun b hF hS=>by rcases hF with hF|hF<;>omega,HSL.out⟩
      ·show Rd w4 32 _ ss.length (cellsOf ss)
       have h:=dsk.c0x G4.out HSS.out (by unfold maxLen;have:=HSL.out;omega)
       rw[HLN.out] at h ⊢
       exact h
      ·intro a n' c' e hn'
       cases e
       exact⟨⟨hg1,hgsl⟩,hg3⟩)
     generalize (grow (fun b=>w2.heap.size≤b∧b<w3.heap.size) w4 w5)=F0 at *
     generalize (fun b=>w3.heap.size≤b∧b<w4.heap.size)=S0 at *
     generalize st0 ss=sz at *
     generalize hd0:Value.pointer (some ad)=d at *
     have HDE:=ι hd0
     clear hd0 HCF HRF HM HCA HCA4 B23 B34 B45 B2 B3 B4 G1 G2 G3 G4 G5 HF5 HSL HSS HLN HRS HK
     go_wp2_with fail
     go_loopw [14] (fun iv wr=>∃(i:Nat) (F S:Nat→Prop) (st:St),i≤m∧iv = .int .i64 (i:Int)∧Hid (PAt w.heap.size d (.pointer (some af)) g wr F S st (10 * i))∧Hid (Below w.heap.size w wr)) (fun iv _=>m-(intOf iv).toNat)
     case atStart=>exact⟨0,F0,S0,sz,by omega,rfl,P0,B5⟩
     case round =>
      clear P0 B5
      obtain⟨i,F,S,st,hi,rfl,HP,HB⟩:=hrel
      by_cases hin:i<m
      ·have hin1:(i:Int)<m:=by omega
       have hil:i<l.length:=by have:=dsk.Rd.count AX.c HR.out (fun _ _=>rfl) (by decide);omega
       obtain⟨b1,o1,rfl,hc1,hm1,hh1,hl1,HR1⟩:=dsk.Rd.chunk AX.c HR.out (fun _ _=>rfl) (by decide) hin
       have hmem:=List.getElem_mem hil
       have HBD:Hid (Below w.heap.size w wr.drew):=ι HB.out.drew
       have HPD:=ι (HP.out.later (Below.refl wr.heap.size wr).drew)
       have HWD:=ι (Rd.rangeLater (HR1 i hil) hh1 HBD.out)
       have HXO:=ι (HOK.out _ hmem)
       have HXL:=ι (HLL.out _ hmem)
       have HDO:=ι (qdo_at HPD.out.q (by omega) (HMX.out.later HBD.out) l[i] (HOK.out _ hmem) (HLL.out _ hmem) HBD.out (Nat.le_refl _))
       have HGD:=ι (c7j HPD.out.q.good (HOK.out _ hmem) (HLL.out _ hmem))
       have HLD:Hid ((qDo st l[i].a).2.safe.length=65):=ι (by rw[qDo_len];exact HPD.out.len)
       have HRE:=ι fun w' (hb:Below w.heap.size w w') (h:RefIs w' S g st)=>d1l S g st w' h (10 * i) HPD.out.q.good (by omega) HPD.out.len l[i].a l[i].p1 l[i].n1 l[i].c1 l[i].p2 l[i].n2 l[i].c2 ((AX.actIn (HOK.out _ hmem) (HLL.out _ hmem)).later hb) ((AX.badIn (HOK.out _ hmem) (HLL.out _ hmem)).later hb)
       generalize l[i]=x at *
       have hbd:b1<wr.drew.heap.size:=Nat.lt_of_lt_of_le hh1 HBD.out.size
       have hnF:¬(F b1∨S b1):=fun h=>by
        rcases h with h|h
        ·have:=(HP.out.q.inF _ h).1;omega
        ·have:=(HP.out.inS _ h).1;omega
       have HBL:Hid (∀w',dsk.Touch (fun b=>F b∨S b) wr.drew w'→Below w.heap.size w w'):=ι (fun w' h=>HBD.out.trans (h.below HBD.out.size (fun b hb=>by
        rcases hb with hb|hb
        ·exact(HPD.out.q.inF b hb).1
        ·exact(HPD.out.inS b hb).1)))
       have e10:10 * (i+1)=10 * i+10:=by omega
       have E10:=ι e10
       clear HR1 hl1 hmem e10
       obtain⟨qr,hqr⟩:∃r,qDo st x.a=r:=⟨_,rfl⟩
       rw[hqr] at HDO HGD HLD HRE
       clear hqr
       obtain⟨r1,st1⟩:=qr
       simp only at HGD HLD
       go_wp2_with fail
       refine wp_region_held_drew (S:=dsk.Touch (fun b=>F b∨S b) wr.drew) (by kernel_rfl) (dsk.Touch.refl _ _) (fun hH0 => ?_)
       refine tk 0 rfl ?_
       refine tk 1 rfl ?_
       refine tk 2 rfl ?_
       refine tk 3 rfl ?_
       refine tkv 4 rfl (c8i (by rfl) _ rfl b1 (o1+i * 6) rfl x (fun w' hw=>dsk.Touch.range hw hbd hnF HWD.out)) ?_
       refine tk 7 rfl ?_
       refine tk 8 rfl ?_
       refine tk 9 rfl ?_
       refine tk 10 rfl ?_
       refine tkv 11 rfl (c8i (by rfl) _ rfl b1 (o1+i * 6) rfl x (fun w' hw=>dsk.Touch.range hw hbd hnF HWD.out)) ?_
       refine rd 5 rfl (fun K hK => ?_)
       go_simp
       refine HDO.out.mono ?_
       rintro e v1 hD
       have HFD:=ι hD
       obtain⟨rfl,_,_⟩:=hD
       have h1:dsk.Touch (fun b=>F b∨S b) wr.drew v1:=HFD.out.2.2.mono (fun b hb=>Or.inl hb)
       dsimp only
       refine hK.out _ _ h1 (fun hHeld => ?_)
       try simp only[Act.put,List.setIfInBounds_toArray,List.set_cons_zero,List.set_cons_succ]
       refine rd 6 rfl (fun K hK => ?_)
       go_simp
       refine(HNU.out _ _).mono ?_
       rintro e v2 ⟨rfl,hv⟩
       subst hv
       have h2:=h1
       dsimp only
       refine hK.out _ _ h2 (fun hHeld => ?_)
       try simp only[Act.put,List.setIfInBounds_toArray,List.set_cons_zero,List.set_cons_succ]
       refine rd 12 rfl (fun K hK => ?_)
       go_simp
       refine(HRE.out _ (HBL.out _ h2) (HPD.out.mid HFD.out)).mono ?_
       rintro e v3 hR
       have HRD:=ι hR
       obtain⟨rfl,_,_⟩:=hR
       have h3:dsk.Touch (fun b=>F b∨S b) wr.drew v3:=h2.trans (HRD.out.2.2.mono (fun b hb=>Or.inr (by rw[hb];exact b2i HPD.out.ref)))
       dsimp only
       refine hK.out _ _ h3 (fun hHeld => ?_)
       try simp only[Act.put,List.setIfInBounds_toArray,List.set_cons_zero,List.set_cons_succ]
       refine rd 13 rfl (fun K hK => ?_)
       go_simp
       refine(HNU.out _ _).mono ?_
       rintro e v4 ⟨rfl,hv⟩
       subst hv
       have h4:=h3
       dsimp only
       refine hK.out _ _ h4 (fun hHeld => ?_)
       try simp only[Act.put,List.setIfInBounds_toArray,List.set_cons_zero,List.set_cons_succ]
       refine tk 14 rfl ?_
       refine wpAnyH_done (by kernel_rfl) ?_ _
       clear hHeld hH0
       have HQ:=ι (HPD.out.step HBD.out.size HFD.out HRD.out HGD.out HLD.out)
       have B3:=ι (HBL.out _ h4)
       have HW3:=ι (dsk.Touch.range h4 hbd hnF HWD.out)
       have cp:=(b5i HW3.out).1
       have hb3:b1<v4.heap.size:=Nat.lt_of_lt_of_le hbd h4.size
       have hps:=HXL.out.1
       have HWC:=ι (c2n d v4 _ _ _ _ x.a.p HQ.out.q.fi HQ.out.q.good (by omega) (HMX.out.later B3.out) (by omega))
       have HWR:=ι fun w' (hb:Below v4.heap.size v4 w')=>rwaitsF _ g _ w' (HQ.out.later hb).ref (10 * i+10) HQ.out.q.good (by omega) x.a.p (by omega)
       generalize hwv:waitsV (r1,st1).2 x.a.p=wv at *
       obtain⟨wa,we⟩:=wv
       simp only at HWC HWR
       have HPX:=ι fun w' (hb:Below v4.heap.size v4 w')=>(b5i (Rd.rangeLater HW3.out hb3 hb)).1
       have q1:(wa != wa)=false:=by simp
       have q2:(we != we)=false:=by simp
       obtain⟨F2,hF2⟩:∃F',F'=grow F wr.drew v2:=⟨_,rfl⟩
       obtain⟨S2,hS2⟩:∃S',S'=grow S v2 v4:=⟨_,rfl⟩
       rw[← hF2,← hS2,← E10.out] at HQ
       clear hF2 hS2 h1 h2 h3 h4 HFD HRD HGD HLD HRE HDO HPD HWD HBD HBL HXO HXL hwv HP HB hnF hbd hps E10
       generalize x.a.p=xp at *
       go_wp2_with (first
        | (go_at_call 36;refine HWC.out.mono ?_;rintro e v5 ⟨rfl,hb⟩;have B5:=ι hb;have cp2:=HPX.out _ hb;clear hb)
        | (go_at_call 44;refine(HWR.out _ B5.out).mono ?_;rintro e v6 ⟨rfl,hb⟩;have B6:=ι (a0a B5.out hb);clear hb)
        | (go_at_call 37;refine(HNU.out _ _).mono ?_;rintro e wn ⟨rfl,hw⟩;obtain rfl:=hw.symm))
       exact⟨⟨i+1,F2,S2,_,by omega,by go_num,ι (HQ.out.later B6.out),ι (a0a B3.out B6.out)⟩,by simp[intOf];omega⟩
      ·obtain rfl:i=m:=by omega
       obtain⟨vs,vw,vl,vb,hra⟩:=(HP.out.later (Below.refl wr.heap.size wr).drew).ref
       obtain⟨es,hes⟩:=hra.log
       obtain⟨pl,cl,hvl⟩:=b8q hes.cells
       obtain⟨pw,cw,hvw⟩:=b8q hra.wait
       subst hvl
       subst hvw
       have hgd:=HP.out.q.good.fine (by omega)
       have HFI:=ι hgd
       have HCA:=ι (sfsHas.code d wr.drew F _ st (HP.out.later (Below.refl wr.heap.size wr).drew).q.fi)
       have HRW:=ι hra.row
       have HES:=ι hes
       have HWT:=ι hra.wait
       have hgl:g<wr.drew.heap.size:=(Array.getElem?_eq_some_iff.1 hra.row).1
       have HBD:=ι HB.out.drew
       have hln:=HFI.out.few.ln
       have hwn:=HFI.out.few.wn
       have HWS:=ι fun x hx=>(HP.out.q.good.ws x hx).1
       clear hra hes hgd HP HB
       go_wp2_with fail
       have h0:=Below.refl wr.drew.heap.size wr.drew
       refine wp_region_held_drew (S:=ext wr.drew) (by kernel_rfl) (Below.refl _ _) (fun hH0 => ?_)
       refine tk 0 rfl ?_
       refine tk 2 rfl ?_
       refine tk 3 rfl ?_
       refine tk 4 rfl ?_
       refine tkv 5 rfl (a0k (by rfl) 52 _ c9v rfl _ rfl g 3 rfl (.slice pl st.log.length cl) (fun w' hw=>a0c (a0n HRW.out hw hgl) 3 _ rfl)) ?_
       refine rd 1 rfl (fun K hK => ?_)
       go_simp
       refine(dsk.clog _ F _ st (dsk.b2f _ _ _ _ _ HCA.out (Keeps.of_below h0)) HFI.out).mono ?_
       rintro e v1 ⟨p1,c1,es1,rfl,he1,hb1⟩
       have HE1:=ι he1
       have h1:=a0a h0 hb1
       clear he1 hb1
       dsimp only
       refine hK.out _ _ ?_ (fun hHeld => ?_)
       ·exact h1
       try simp only[Act.put,List.setIfInBounds_toArray,List.set_cons_zero,List.set_cons_succ]
       refine rd 6 rfl (fun K hK => ?_)
       go_simp
       refine(dsk.c1m _ _ p1 pl _ c1 cl st.log es1 es _ HFI.out.few.es HFI.out.few.ts HE1.out (a3l HES.out (Keeps.of_below h1) (fun b hb=>hb)) (by omega)).mono ?_
       rintro e v2 ⟨rfl,k2,rfl⟩
       have h2:=a1z h1 k2
       dsimp only
       refine hK.out _ _ ?_ (fun hHeld => ?_)
       ·exact h2
       try simp only[Act.put,List.setIfInBounds_toArray,List.set_cons_zero,List.set_cons_succ]
       refine tk 7 rfl ?_
       refine tk 8 rfl ?_
       refine tk 10 rfl ?_
       refine tk 11 rfl ?_
       refine tk 12 rfl ?_
       refine tkv 13 rfl (a0k (by rfl) 54 _ c6x rfl _ rfl g 1 rfl (.slice pw st.wait.length cw) (fun w' hw=>a0c (a0n HRW.out hw hgl) 1 _ rfl)) ?_
       refine rd 9 rfl (fun K hK => ?_)
       go_simp
       refine(dsk.cwaitingO _ F _ st (dsk.b2f _ _ _ _ _ HCA.out (Keeps.of_below h2)) HFI.out).mono ?_
       rintro e v3 ⟨p3,c3,rfl,ho3,hb3⟩
       have HO3:=ι ho3.rd
       have h3:=a0a h2 hb3
       clear ho3 hb3
       dsimp only
       refine hK.out _ _ ?_ (fun hHeld => ?_)
       ·exact h3
       try simp only[Act.put,List.setIfInBounds_toArray,List.set_cons_zero,List.set_cons_succ]
       refine rd 14 rfl (fun K hK => ?_)
       go_simp
       refine(dsk.c0t p3 pw _ c3 cw st.wait _ HWS.out HO3.out (HWT.out.later h3) (by omega)).mono ?_
       rintro e v4 ⟨rfl,k4,rfl⟩
       have h4:=a1z h3 k4
       dsimp only
       refine hK.out _ _ ?_ (fun hHeld => ?_)
       ·exact h4
       try simp only[Act.put,List.setIfInBounds_toArray,List.set_cons_zero,List.set_cons_succ]
       refine tk 15 rfl ?_
       refine tk 16 rfl ?_
       refine wpAnyH_done (by kernel_rfl) ?_ _
       clear hHeld hH0
       go_wp2_with fail
       go_ret
       exact⟨rfl,a0a HBD.out h4⟩
    ·have hm0:mountsB ss=false:=by simpa using hmb
     have HM:=ι fun w1 F d (h:CA w1 F d (st0 ss))=>b7h w1 d ss (Or.inr ⟨F,st0 ss,h,(a7t HSS.out (by have:=HLN.out;omega)).fine (by omega),(b5k (st0 ss) fun x hx=>(by cases hx)).symm⟩) 8 (Or.inr ⟨by have:=HLN.out;omega,hm0,rfl⟩)
     clear hmb hm0 h65
     go_wp2_with (first
      | (go_at_call 9;refine HCF.out.mono ?_;rintro e w3 ⟨ad,rfl,hc,hb⟩;have HCA:=ι hc;have B23:=ι hb;have B3:=ι (a0a B2.out hb);clear hc hb)
      | (go_at_call 10;refine(HRF.out _ B3.out).mono ?_;rintro e w4 ⟨g,gs,rfl,_,_,_,_,_,hb⟩;have B4:=ι (a0a B3.out hb);have HCA4:=ι (dsk.b2f _ _ _ _ _ HCA.out (Keeps.of_below hb));clear hb)
      | (go_at_call 11;refine(HM.out _ _ _ HCA4.out).mono ?_;rintro e w5 ⟨rfl,hb⟩;have B5:=ι (a0a B4.out hb);clear hb)
      | (go_at_call 37;refine(HNU.out _ _).mono ?_;rintro e wn ⟨rfl,hw⟩;obtain rfl:=hw.symm)
      | (go_at_call 36;refine(nwaits (Or.inl rfl) _).mono ?_;rintro e wn ⟨rfl,hw⟩;obtain rfl:=hw.symm)
      | (go_at_call 38;refine(nfsync (Or.inl rfl) _).mono ?_;rintro e w6 ⟨rfl,hb⟩;have B6:=ι (a0a B5.out hb);clear hb)
      | (go_at_call 39;refine(nfdata (c3n w6) _).mono ?_;rintro e w7 ⟨rfl,hb⟩;have B7:=ι (a0a (a0b B6.out _) hb);clear hb)
      | (go_at_call 40;refine(nsyncdir (Or.inl rfl) _).mono ?_;rintro e w8 ⟨rfl,hb⟩;have B8:=ι (a0a B7.out hb);clear hb)
      | (go_at_call 41;refine(nbarrier (Or.inl rfl)).mono ?_;rintro e w9 ⟨rfl,hb⟩;have B9:=ι (a0a B8.out hb);clear hb))
     go_ret
     exact⟨rfl,B9.out⟩
   ·have HCF:=ι (c3j w2 p n c hn2 (by omega))
    have HRF:=ι fun w'=>c3g p n c w' hn2 (by omega)
    have HM:=ι fun w1=>b7h w1 (.pointer none) [] (Or.inl ⟨rfl,rfl⟩) 1 (Or.inl ⟨rfl,rfl⟩)
    clear h65
    go_wp2_with (first
     | (go_at_call 9;refine HCF.out.mono ?_;rintro e w3 ⟨rfl,hb⟩;have B3:=ι (a0a B2.out hb);clear hb)
     | (go_at_call 10;refine(HRF.out _).mono ?_;rintro e w4 ⟨rfl,hb⟩;have B4:=ι (a0a B3.out hb);clear hb)
     | (go_at_call 11;refine(HM.out _).mono ?_;rintro e w5 ⟨rfl,hb⟩;have B5:=ι (a0a B4.out hb);clear hb)
     | (go_at_call 37;refine(HNU.out _ _).mono ?_;rintro e wn ⟨rfl,hw⟩;obtain rfl:=hw.symm)
     | (go_at_call 36;refine(nwaits (Or.inl rfl) _).mono ?_;rintro e wn ⟨rfl,hw⟩;obtain rfl:=hw.symm)
     | (go_at_call 38;refine(nfsync (Or.inl rfl) _).mono ?_;rintro e w6 ⟨rfl,hb⟩;have B6:=ι (a0a B5.out hb);clear hb)
     | (go_at_call 39;refine(nfdata (c3n w6) _).mono ?_;rintro e w7 ⟨rfl,hb⟩;have B7:=ι (a0a (a0b B6.out _) hb);clear hb)
     | (go_at_call 40;refine(nsyncdir (Or.inl rfl) _).mono ?_;rintro e w8 ⟨rfl,hb⟩;have B8:=ι (a0a B7.out hb);clear hb)
     | (go_at_call 41;refine(nbarrier (Or.inl rfl)).mono ?_;rintro e w9 ⟨rfl,hb⟩;have B9:=ι (a0a B8.out hb);clear hb))
    go_ret
    exact⟨rfl,B9.out⟩
 ·have d1:decide ((200:Int)<n)=true:=by simp;omega
  clear HLI
  go_enter Tryz.func5,Tryz.ntmps5
  go_wp2_with (go_at_call 35;refine(HK.out _ (Below.refl _ _)).mono ?_;rintro e w2 ⟨rfl,hb2⟩)
  go_ret
  exact⟨rfl,hb2⟩
end fs
namespace fs
set_option maxRecDepth 100000
open Go.ChangeShapes Go.WideShapes Go.ChangeAt Go.RowKit
open rows
open sec
open ly
open lk
theorem walkFlushPlays(p:Option Addr)(n c:Nat)(ss:List (List Int))(q:Option Addr)(m cq:Nat)(l:List AX)(w:World)(hr:Rd w 32 (.slice p n c) n (cellsOf ss))(hnm:n≤maxLen)(hss:Secs ss)(hlr:Rd w 6 (.slice q m cq) m ((l.map AX.c).flatten))(hmm:m≤maxLen)(hok:∀a∈l,a.ok w)(hmx:pa.Mx w) :
  Calls Tryz.prog 5 #[.slice p n c,.slice q m cq] w (Rt w (.bool true)) :=
 b5r w p n c ss hss hr hnm q m cq l hlr hmm hok hmx
end fs
end Go.Proofs.YtiaapfijbidgnaaGreatDoor
