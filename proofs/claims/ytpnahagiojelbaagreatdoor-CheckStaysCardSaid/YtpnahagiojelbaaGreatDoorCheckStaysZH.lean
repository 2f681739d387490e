/- What CheckStays wants, part 34. -/
import Derived.Test.YtpnahagiojelbaaGreatDoorCheckStaysB
import Derived.Test.YtpnahagiojelbaaGreatDoorCheckStaysG
import Derived.Test.YtpnahagiojelbaaGreatDoorCheckStaysH
import Derived.Test.YtpnahagiojelbaaGreatDoorCheckStaysX
import Derived.Test.YtpnahagiojelbaaGreatDoorCheckStaysZE
import Derived.Test.YtpnahagiojelbaaGreatDoorCheckStaysZF
import Derived.Test.YtpnahagiojelbaaGreatDoorCheckStaysZG
import Derived.Lib.SlBytesConst
set_option linter.unusedVariables false
set_option linter.unusedSimpArgs false
namespace Go.Proofs.YtpnahagiojelbaaGreatDoor
namespace fs
set_option maxRecDepth 100000
open Go.ChangeShapes Go.WideShapes Go.ChangeAt Go.RowKit
open rows
open sec
open dsk (St Wr.c CA)
open ly
open pa
open lk
open al
set_option maxRecDepth 100000 in
theorem c5a(w:World)(d:Value)(ss:List (List Int))(hd:Dk w d ss)(hl:0<ss.length)(hm:mountsB ss=true):Calls Tryz.prog 31 #[d] w fun e w'=>∃g,e = .returned (.tuple #[.pointer (some ⟨g,0,none⟩),.int .i64 0])∧FR w' g d∧w.heap.size≤g∧Below w.heap.size w w':=by
 have HM:=ι fun w' (hb:Below w.heap.size w w')=>a7i w' d ss (hd.later hb)
 rw[hm] at HM
 have HR:=ι (dread w d ss 0 hd (a0f (by omega)))
 rw[if_pos ⟨by omega,by omega⟩] at HR
 have HX:=ι (a1e hd.secs.1 0)
 obtain⟨pd,rfl⟩:=a9l hd
 generalize secAt ss 0=s at *
 clear hd hl hm
 go_enter Tryz.func31,Tryz.ntmps31
 go_wp2_with (first
  | (go_at_call 74;refine HR.out.mono ?_;rintro e w1 ⟨rfl,hb⟩;have B1:=ι hb;clear hb)
  | (refine a0k rfl (.tmp 4) (.tmp 10) rfl rfl w1.heap.size s zero32 rfl rfl HX.out.1 (by decide) (a1n w1) ?_;intro w2 hA hB _;have B2:=ι (a0b B1.out ((a0a (Below.refl _ w1) _).trans hB));clear hA hB)
  | (go_at_call 24;refine(HM.out _ B2.out).mono ?_;rintro e w3 ⟨rfl,hb⟩;have B3:=ι (a0b B2.out hb);clear hb))
 go_ret2
 exact⟨w3.heap.size,rfl,heap_alloc_new _ _,B3.out.size,a0a B3.out _⟩
set_option maxRecDepth 100000 in
theorem b7p(w:World)(d:Value)(ss:List (List Int))(hd:Dk w d ss)(x:Int)(h:(ss.length=0∧x=1)∨(0<ss.length∧mountsB ss=false∧x=8)):Calls Tryz.prog 31 #[d] w (Rt w (.tuple #[.pointer none,.int .i64 x])):=by
 have HM:=ι fun w' (hb:Below w.heap.size w w')=>a7i w' d ss (hd.later hb)
 have HR:=ι (dread w d ss 0 hd (a0f (by omega)))
 have HX:=ι (a1e hd.secs.1 0)
 obtain⟨pd,rfl⟩:=a9l hd
 generalize secAt ss 0=s at *
 rcases h with⟨h1,rfl⟩|⟨h1,h2,rfl⟩
 ·rw[if_neg (by omega)] at HR
  clear hd h1 HM
  go_enter Tryz.func31,Tryz.ntmps31
  go_wp2_with (first
   | (go_at_call 74;refine HR.out.mono ?_;rintro e w1 ⟨rfl,hb⟩;have B1:=ι hb;clear hb)
   | (refine a0k rfl (.tmp 4) (.tmp 10) rfl rfl w1.heap.size s zero32 rfl rfl HX.out.1 (by decide) (a1n w1) ?_;intro w2 hA hB _;have B2:=ι (a0b B1.out ((a0a (Below.refl _ w1) _).trans hB));clear hA hB))
  go_ret2
  exact⟨rfl,B2.out⟩
 ·rw[if_pos ⟨by omega,by omega⟩] at HR
  rw[h2] at HM
  clear hd h1 h2
  go_enter Tryz.func31,Tryz.ntmps31
  go_wp2_with (first
   | (go_at_call 74;refine HR.out.mono ?_;rintro e w1 ⟨rfl,hb⟩;have B1:=ι hb;clear hb)
   | (refine a0k rfl (.tmp 4) (.tmp 10) rfl rfl w1.heap.size s zero32 rfl rfl HX.out.1 (by decide) (a1n w1) ?_;intro w2 hA hB _;have B2:=ι (a0b B1.out ((a0a (Below.refl _ w1) _).trans hB));clear hA hB)
   | (go_at_call 24;refine(HM.out _ B2.out).mono ?_;rintro e w3 ⟨rfl,hb⟩;have B3:=ι (a0b B2.out hb);clear hb))
  go_ret2
  exact⟨rfl,B3.out⟩
def FI(d:Value)(w:World)(F:Nat→Prop)(f:Value)(st:St):Prop:=∃g G,f = .pointer (some ⟨g,0,none⟩)∧F g∧(∀b,G b→F b)∧FsAt w G g d st
theorem a3i{d:Value}{w w':World}{F G:Nat→Prop}{g:Nat}{r:Int×St}{e:Ending}(hF:F g)(hG:∀b,G b→F b)(h:PDone (fun b=>G b∧b<w.heap.size) g d w r e w'):FDone (FI d) F (.pointer (some ⟨g,0,none⟩)) w r e w' :=
 ⟨h.1,⟨g,_,rfl,Or.inl hF,fun b hb=>hb.imp (fun h=>hG b h.1) id,h.2.1⟩,h.2.2.mono fun b hb=>hG b hb.1⟩
theorem d3n{d:Value}{w:World}{F:Nat→Prop}{f:Value}{st:St}{k:Nat}(h:FI d w F f st)(hg:st.good k)(hk:k≤880):∃g,f = .pointer (some ⟨g,0,none⟩)∧FK w g d (nowL st):=by
 obtain⟨g,G,rfl,_,_,h⟩:=h
 exact⟨g,rfl,h.known hg (by omega)⟩
theorem sfsIs(d:Value):SfsIs (FI d) where
 kept:=fun w w' F f st ⟨g,G,h1,h2,h3,h4⟩ k=>⟨g,G,h1,h2,h3,⟨(k.2 g h4.row.lt h2).trans h4.row,dsk.ca_kept _ _ _ _ _ h4.code (k.mono h3),h4.apart⟩⟩
 mono:=fun w F G f st ⟨g,H,h1,h2,h3,h4⟩ hFG=>⟨g,H,h1,hFG _ h2,fun b hb=>hFG b (h3 b hb),h4⟩
 read:=fun w F f st k s h hg hk hm hs=>by
  obtain⟨g,rfl,hk⟩:=d3n h hg hk
  exact fread w g d _ s hk hm hs
 create:=fun w F f st k s ⟨g,G,h1,h2,h3,h4⟩ hg hk hm hs=>by
  subst h1
  exact(fcreate _ g d st w (fun b hb=>hb.2) (a0y h4) k hg (by omega) hm s hs).mono fun e w' hd=>a3i h2 h3 hd
 mkdir:=fun w F f st k s ⟨g,G,h1,h2,h3,h4⟩ hg hk hm hs=>by
  subst h1
  exact(fmkdir _ g d st w (fun b hb=>hb.2) (a0y h4) k hg (by omega) hm s hs).mono fun e w' hd=>a3i h2 h3 hd
 write:=fun w F f st k s off p m c b ⟨g,G,h1,h2,h3,h4⟩ hg hk hm hs ho hb hin hm3 hbb=>by
  subst h1
  exact(fwrite _ g d st w (fun b hb=>hb.2) (a0y h4) k hg (by omega) hm s hs off ho p m c b hb hm3 hbb).mono fun e w' hd=>a3i h2 h3 hd
 append:=fun w F f st k s p m c b ⟨g,G,h1,h2,h3,h4⟩ hg hk hm hs hb hin hm3 hbb=>by
  subst h1
  exact(fappend _ g d st w (fun b hb=>hb.2) (a0y h4) k hg (by omega) hm s hs p m c b hb hm3 hbb).mono fun e w' hd=>a3i h2 h3 hd
 trunc:=fun w F f st k s z ⟨g,G,h1,h2,h3,h4⟩ hg hk hm hs hz=>by
  subst h1
  exact(ftrunc _ g d st w (fun b hb=>hb.2) (a0y h4) k hg (by omega) hm s hs z hz).mono fun e w' hd=>a3i h2 h3 hd
 rename:=fun w F f st k s u ⟨g,G,h1,h2,h3,h4⟩ hg hk hm hs hu=>by
  subst h1
  exact(frename _ g d st w (fun b hb=>hb.2) (a0y h4) k hg (by omega) hm s u hs hu).mono fun e w' hd=>a3i h2 h3 hd
 unlink:=fun w F f st k s ⟨g,G,h1,h2,h3,h4⟩ hg hk hm hs=>by
  subst h1
  exact(funlink _ g d st w (fun b hb=>hb.2) (a0y h4) k hg (by omega) hm s hs).mono fun e w' hd=>a3i h2 h3 hd
theorem sfsHas:SfsHas FI where
 mount:=fun w F d st k h hg hk hm=>by
  have hsn:=a6r st fun x hx=>(hg.ws x hx).2
  have hl:(nowL st).length=st.safe.length:=now_len st
  unfold mountV at hm
  split at hm
  ·cases hm
  ·rename_i h0
   split at hm
   ·rename_i h1
    refine(c5a w d (nowL st) (Or.inr ⟨F,st,h,hg.fine (by omega),hsn.symm⟩) (by omega) h1).mono ?_
    rintro e w' ⟨g,rfl,hr,hgl,hb⟩
    have hgw:=hr.lt
    refine⟨_,rfl,⟨g,fun b=>F b∧b<w.heap.size,rfl,Or.inr ⟨hgl,hgw⟩,fun b hb=>Or.inl hb.1,⟨hr,lk.CA.later' (dsk.CA.narrow h) hb,fun hh=>by have:=hh.2;omega⟩⟩,hb⟩
   ·cases hm
 disk:=fun d w F f st k ⟨g,G,h1,h2,h3,h4⟩ hg hk=>by
  subst h1
  exact fdisk g d w h4.row
 code:=fun d w F f st ⟨g,G,h1,h2,h3,h4⟩=>b0l h4.code h3
end fs
namespace fs
set_option maxRecDepth 100000
open Go.ChangeShapes Go.WideShapes Go.ChangeAt Go.RowKit
open rows
open sec
open dsk (a0g St Wr.c CA CodeDone syncR tagsC tagC a8k a0p)
open ly
open pa
open lk
open al
def syncV(st:St)(s:ByteArray)(kind:Int)(ks:List Int):Int×St :=
 if (lookV (nowL st) (bys s)).2≠0 then ((lookV (nowL st) (bys s)).2,st)
 else if (inoAt (nowL st) (lookV (nowL st) (bys s)).1).kind≠kind then (6,st)
 else syncR st (ks.map fun k=>(k,(lookV (nowL st) (bys s)).1))
theorem b1m{d:Value}{w w1 w':World}{G:Nat→Prop}{g:Nat}{st:St}{r:Int×St}{e:Ending}(h:FsAt w G g d st)(hb:Below w.heap.size w w1)(hd:CodeDone CA G d w1 r e w'):PDone G g d w r e w':=by
 obtain⟨h1,h2,h3⟩:=hd
 have hlt:=h.row.lt
 refine⟨h1,⟨(h.row.later hb).touch h3 h.apart,b0l h2 (fun b hb' => ?_),fun hh => ?_⟩,(dsk.Touch.of_below hb).trans h3⟩
 ·rcases hb' with h|h
  ·exact Or.inl h
  ·exact Or.inr ⟨Nat.le_trans hb.size h.1,h.2⟩
 ·rcases hh with h1|h1
  ·exact h.apart h1
  ·omega
theorem und_pdF:Tryz.prog.underlying 45=some (.pointer 96):=by kernel_rfl
theorem b4s{w:World}{F:Nat→Prop}{d:Value}{st:St}(h:CA w F d st):∃a,d = .pointer (some a):=by
 obtain⟨z,g,vs,vw,vn,vl,vf,rfl,_⟩:=h
 exact⟨_,rfl⟩
theorem qlocate(w:World)(g:Nat)(a:Addr)(ss:List (List Int))(s:ByteArray)(h:FK w g (.pointer (some a)) ss)(hm:Mx w)(hsz:s.size≤100000) :
  Calls Tryz.prog 71 #[.pointer (some ⟨g,0,none⟩),.string s] w (Rt w (lookT (lookV ss (bys s)))):=by
 have HD:=ι (fdisk g _ w h.row)
 have HL:=ι (a9e w _ ss s hm h.dk hsz)
 have hq:=fun w'=>dsk.c8i und_pdF (some a) w'
 simp only[Option.isNone_some] at hq
 generalize lookV ss (bys s)=lv at *
 obtain⟨z,er⟩:=lv
 unfold lookT at HL
 simp only at HL
 clear h hm hsz
 go_enter Tryz.func71,Tryz.ntmps71
 go_wp2_with (first|(go_at_call 16;refine HD.out.mono ?_;rintro e w1 ⟨rfl,hw⟩;obtain rfl:=hw.symm)|(go_at_call 82;refine HL.out.mono ?_;rintro e w2 ⟨rfl,hb⟩;have B2:=ι hb;clear hb))
 go_ret2
 exact⟨rfl,B2.out⟩
theorem qtagsof(w:World)(p:Option Addr)(m c:Nat):Calls Tryz.prog 41 #[.slice p m c] w fun e w'=>e = .returned (.func (.func 86) #[] #[.pointer (some ⟨w.heap.size,0,none⟩)])∧w'=w.alloc (.cells #[.slice p m c] 31):=by
 go_enter Tryz.func41,Tryz.ntmps41
 go_wp2
 go_ret
 exact⟨rfl,rfl⟩
theorem c3k(ts:List (Int×Int))(t:Int×Int):tagsC (ts++[t])=tagsC ts++[.int .i64 t.1,.int .i64 t.2]:=by simp[tagsC,tagC]
set_option maxRecDepth 100000 in
theorem qtags(w:World)(g:Nat)(p:Option Addr)(m c:Nat)(ks:List Int)(n:Int)(hg:Go.Boxed w g 31 (.slice p m c))(hr:Rd w 1 (.slice p m c) m (i64s ks))(hm:m≤10) :
  Calls Tryz.prog 86 #[.int .i64 n,.pointer (some ⟨g,0,none⟩)] w fun e w'=>∃p' c',e = .returned (.slice p' m c')∧rows.Own w' w.heap.size 101 2 (.slice p' m c') m (tagsC (ks.map fun k=>(k,n)))∧Below w.heap.size w w':=by
 have hkl:ks.length=m:=by have:=hr.cells;simpa [i64s] using this
 have hc:=hg.cell
 have HR:=ι hr
 have HK:=ι hkl
 have hmi:(m:Int)≤10:=by omega
 clear hg hr hkl
 go_enter Tryz.func86,Tryz.ntmps86
 go_wp2_with fail
 go_loopw [4,6,9] (fun ov _ iv wr=>∃(j:Nat) (q:Option Addr) (kc:Nat),j≤m∧iv = .int .i64 (j:Int)∧ov = .slice q j kc∧Hid (rows.Own wr w.heap.size 101 2 (.slice q j kc) j (tagsC ((ks.take j).map fun k=>(k,n))))∧Hid (Below w.heap.size w wr)) (fun _ _ iv _=>m-(intOf iv).toNat)
 case atStart=>exact⟨0,none,0,by omega,rfl,rfl,ι (a2q _ _ _ _),ι (Below.refl _ _)⟩
 case round =>
  obtain⟨j,q,kc,hj,rfl,rfl,HO,HB⟩:=hrel
  by_cases hlt:j<m
  ·have hlti:(j:Int)<m:=by omega
   obtain⟨b1,o1,rfl,hc1,hm1,hh1,hl1,HR1⟩:=(HR.out.later HB.out).at hlt
   have hr1:=HR1 j hlt
   have HX:Hid ((ks.take (j+1)).map (fun k=>(k,n))=(ks.take j).map (fun k=>(k,n))++[(ks.getD j 0,n)]):=ι (by
    have hjl:j<ks.length:=by rw[HK.out];exact hlt
    rw[List.take_succ_eq_append_getElem hjl,List.map_append]
    simp[hjl])
   generalize ks.getD j 0=x at *
   clear HR1 hl1
   go_wp2_with (first
    | (refine wpList_buildTo rfl ?_ ?_)
    | (refine a0g a8k (by decide) rfl (.tmp 16) rfl [.int .i64 x,.int .i64 n] rfl rfl ?_)
    | (at_builtin;refine b7s a8k rfl (.tmp 13) (.tmp 17) rfl w.heap.size _ j _ rfl (HO.out.alloc _) _ 1 [.int .i64 x,.int .i64 n] rfl (a0p _ 101 2 [.int .i64 x,.int .i64 n] rfl) (fun u hu=>by simp at hu;rcases hu with rfl|rfl<;>rfl) (by omega) (by have:=HB.out.size;simp;omega) ?_;intro pa ca wa ho hb;have HO6:Hid (rows.Own wa w.heap.size 101 2 (.slice pa (j+1) ca) (j+1) (tagsC ((ks.take (j+1)).map fun k=>(k,n)))):=ι (by rw[HX.out,c3k];exact ho);have B6:=ι (a9s (a0a HB.out _) hb (Nat.le_refl _));clear ho hb))
   go_roundw
   case rel=>exact⟨j+1,pa,ca,by omega,by go_num,rfl,HO6,B6⟩
   case measure=>simp[intOf];omega
  ·obtain rfl:j=m:=by omega
   go_wp2_with fail
   go_ret
   exact⟨q,kc,rfl,by have:=HO.out;rw[List.take_of_length_le (by rw[HK.out];exact Nat.le_refl _)] at this;exact this,HB.out⟩
end fs
namespace fs
set_option maxRecDepth 100000
open Go.ChangeShapes Go.WideShapes Go.ChangeAt Go.RowKit
open rows
open sec
open dsk (wf64 InS size_alloc St Wr.c CA barrier tagsC csync cbarrier)
open ly
open pa
open lk
open al
set_option maxRecDepth 100000 in
set_option maxHeartbeats 1600000 in
theorem qsettle(w:World)(G:Nat→Prop)(g:Nat)(a:Addr)(st:St)(hGl:∀b,G b→b<w.heap.size)(h:FsAt w G g (.pointer (some a)) st)(k:Nat)(hg:st.good k)(hk:k≤880)(hm:Mx w)(s:ByteArray)(hsz:s.size≤100000)(kind:Int)(gk:Nat)(p:Option Addr)(m c:Nat)(ks:List Int)(hgk:Go.Boxed w gk 31 (.slice p m c))(hr:Rd w 1 (.slice p m c) m (i64s ks))(hm10:m≤10)(hks:∀x∈ks,wf64 x) :
  Calls Tryz.prog 40 #[.pointer (some ⟨g,0,none⟩),.string s,.int .i64 kind,.func (.func 86) #[] #[.pointer (some ⟨gk,0,none⟩)]] w (PDone G g (.pointer (some a)) w (syncV st s kind ks)):=by
 have HK:=h.known hg (by omega)
 have hsec:=HK.dk.secs.1
 have HL:=ι (qlocate w g a (nowL st) s HK hm hsz)
 have HD:=ι fun w' (hb:Below w.heap.size w w')=>fdisk g _ w' (h.row.later hb)
 have hzf:=a6u hsec (bys s)
 have hkl:ks.length=m:=by have:=hr.cells;simpa [i64s] using this
 have hgkl:gk<w.heap.size:=(Array.getElem?_eq_some_iff.1 hgk).1
 obtain⟨V,hV⟩:∃V,syncV st s kind ks=V:=⟨_,rfl⟩
 rw[hV]
 unfold syncV at hV
 generalize lookV (nowL st) (bys s)=lv at *
 obtain⟨z,er⟩:=lv
 unfold lookT at HL
 simp only at HL hV hzf
 by_cases he:er=0
 ·subst he
  rw[if_neg (by simp)] at hV
  have hf1:=fieldI0 (inoAt (nowL st) z) (a0q hsec z)
  have HI:=ι fun w' (hb:Below w.heap.size w w')=>a4a w' _ (nowL st) z (HK.later hb).dk (a0f (by omega))
  generalize aggI (inoAt (nowL st) z)=yv at *
  obtain⟨kd,hkd⟩:∃kd,(inoAt (nowL st) z).kind=kd:=⟨_,rfl⟩
  rw[hkd] at hf1 hV
  by_cases hkk:kd=kind
  ·subst hkk
   have hne:(kd != kd)=false:=by simp
   rw[if_neg (by simp)] at hV
   subst hV
   have HT:=ι fun w' (hb:Below w.heap.size w w')=>qtags w' gk p m c ks z ((hb.block gk hgkl).trans hgk) (hr.later hb) hm10
   have HS:=ι fun w' (hb:Below w.heap.size w w') q cq (h2:Rd w' 2 (.slice q m cq) m (tagsC (ks.map fun k=>(k,z)))) (hin:InS (fun b=>¬G b) (.slice q m cq))=>csync w' G _ st q m cq _ (lk.CA.later' h.code hb) (hg.fine (by omega)) h2 hin (by omega) (fun t ht=>by
    obtain⟨x,hx,rfl⟩:=List.mem_map.1 ht
    exact⟨hks x hx,a0f (by omega)⟩)
   have HX:=ι h
   have HGL:=ι hGl
   clear h hGl HK hm hgk hr hks hzf hsec hkl
   go_enter Tryz.func40,Tryz.ntmps40
   go_wp2_with (first
    | (go_at_call 71;refine HL.out.mono ?_;rintro e w2 ⟨rfl,hb⟩;have B2:=ι hb;clear hb)
    | (go_at_call 83;refine(HI.out _ B2.out).mono ?_;rintro e w3 ⟨rfl,hb⟩;have B3:=ι (a0b B2.out hb);clear hb)
    | (go_at_call 86;refine(HT.out _ B3.out).mono ?_;rintro e w4 ⟨q,cq,rfl,ho,hb⟩;have B4:=ι (a0b B3.out hb);have O4:=ι ho;clear ho hb)
    | (go_at_call 85;refine(HS.out _ B4.out _ _ O4.out.rd ((dsk.b9t O4.out).mono fun b hb hG=>by have:=HGL.out b hG;have:=B3.out.size;have:=hb.1;omega)).mono ?_;rintro e w5 hd;have D5:=ι (b1m HX.out B4.out hd);obtain⟨rfl,_⟩:=hd)
    | (go_at_call 16;refine(HD.out _ B3.out).mono ?_;rintro e w6 ⟨rfl,hw⟩;obtain rfl:=hw.symm)
    | (go_at_call 16;refine(HD.out _ B2.out).mono ?_;rintro e w6 ⟨rfl,hw⟩;obtain rfl:=hw.symm))
   go_ret
   exact D5.out
  ·have hne:(kd != kind)=true:=by simpa using hkk
   rw[if_pos (by simpa using hkk)] at hV
   subst hV
   have HX:=ι h
   clear h hGl HK hm hgk hr hks hzf hsec hkl
   go_enter Tryz.func40,Tryz.ntmps40
   go_wp2_with (first
    | (go_at_call 71;refine HL.out.mono ?_;rintro e w2 ⟨rfl,hb⟩;have B2:=ι hb;clear hb)
    | (go_at_call 83;refine(HI.out _ B2.out).mono ?_;rintro e w3 ⟨rfl,hb⟩;have B3:=ι (a0b B2.out hb);clear hb)
    | (go_at_call 16;refine(HD.out _ B2.out).mono ?_;rintro e w6 ⟨rfl,hw⟩;obtain rfl:=hw.symm))
   go_ret
   exact a0h HX.out B3.out
 ·rw[if_pos he] at hV
  subst hV
  have hne:(er != 0)=true:=by simpa using he
  have HX:=ι h
  clear h hGl HK hm hgk hr hks hzf hsec hkl
  go_enter Tryz.func40,Tryz.ntmps40
  go_wp2_with (first
   | (go_at_call 71;refine HL.out.mono ?_;rintro e w2 ⟨rfl,hb⟩;have B2:=ι hb;clear hb))
  go_ret
  exact a0h HX.out B2.out
theorem b4d(w:World)(l:List Int)(hl:l.length≤10)(hl0:0<l.length):Go.Boxed ((w.alloc (.cells (i64s l).toArray 3)).alloc (.cells #[.slice (some ⟨w.heap.size,0,none⟩) l.length l.length] 31)) (w.heap.size+1) 31 (.slice (some ⟨w.heap.size,0,none⟩) l.length l.length)∧Rd ((w.alloc (.cells (i64s l).toArray 3)).alloc (.cells #[.slice (some ⟨w.heap.size,0,none⟩) l.length l.length] 31)) 1 (.slice (some ⟨w.heap.size,0,none⟩) l.length l.length) l.length (i64s l)∧Below w.heap.size w ((w.alloc (.cells (i64s l).toArray 3)).alloc (.cells #[.slice (some ⟨w.heap.size,0,none⟩) l.length l.length] 31)):=by
 have b1:=a0a (Below.refl w.heap.size w) (.cells (i64s l).toArray 3)
 have b2:=a0a (Below.refl (w.alloc (.cells (i64s l).toArray 3)).heap.size (w.alloc (.cells (i64s l).toArray 3))) (.cells #[.slice (some ⟨w.heap.size,0,none⟩) l.length l.length] 31)
 refine⟨?_,?_,a0b b1 b2⟩
 ·have:=heap_alloc_new (w.alloc (.cells (i64s l).toArray 3)) (.cells #[.slice (some ⟨w.heap.size,0,none⟩) l.length l.length] 31)
  rw[size_alloc] at this
  exact this
 ·refine Rd.later ?_ b2
  rcases l with _|⟨x,t⟩
  ·exact absurd hl0 (by simp)
  ·refine Or.inr ⟨w.heap.size,0,(x::t).length,rfl,by simp,Nat.le_refl _,by unfold maxLen;omega,by simp,by simp[i64s],fun i u hi => ?_⟩
   rw[World.cell?_alloc_mark,Nat.zero_add]
   simpa using hi
theorem b6d{l:List Int}(h:∀x∈l,0≤x∧x<256:=by decide):∀x∈l,wf64 x:=fun x hx=>a0f (h x hx)
set_option maxRecDepth 100000 in
theorem qfsync(w:World)(G:Nat→Prop)(g:Nat)(a:Addr)(st:St)(hGl:∀b,G b→b<w.heap.size)(h:FsAt w G g (.pointer (some a)) st)(k:Nat)(hg:st.good k)(hk:k≤880)(hm:Mx w)(s:ByteArray)(hsz:s.size≤100000) :
  Calls Tryz.prog 12 #[.pointer (some ⟨g,0,none⟩),.string s] w (PDone G g (.pointer (some a)) w (syncV st s 1 [1,2])):=by
 obtain⟨h1,h2,h3⟩:=b4d w [1,2] (by decide) (by decide)
 have HS:=ι (qsettle _ G g a st (fun b hb=>Nat.lt_of_lt_of_le (hGl b hb) h3.size) (h.later h3) k hg hk (hm.later h3) s hsz 1 _ _ 2 2 [1,2] h1 h2 (by decide) (b6d (by decide)))
 have B3:=ι h3
 have HX:=ι h
 clear h hGl hm h1 h2 h3
 go_enter Tryz.func12,Tryz.ntmps12
 go_wp2_with (first
  | (go_at_call 41;refine(qtagsof _ _ _ _).mono ?_;rintro e w2 ⟨rfl,hw⟩;subst hw)
  | (go_at_call 40;refine HS.out.mono ?_;rintro e w5 hd;have D5:=ι (a1x HX.out.row.lt HX.out.apart B3.out hd);obtain⟨rfl,_⟩:=hd))
 go_ret
 exact D5.out
set_option maxRecDepth 100000 in
theorem qfdata(w:World)(G:Nat→Prop)(g:Nat)(a:Addr)(st:St)(hGl:∀b,G b→b<w.heap.size)(h:FsAt w G g (.pointer (some a)) st)(k:Nat)(hg:st.good k)(hk:k≤880)(hm:Mx w)(s:ByteArray)(hsz:s.size≤100000) :
  Calls Tryz.prog 33 #[.pointer (some ⟨g,0,none⟩),.string s] w (PDone G g (.pointer (some a)) w (syncV st s 1 [1])):=by
 obtain⟨h1,h2,h3⟩:=b4d w [1] (by decide) (by decide)
 have HS:=ι (qsettle _ G g a st (fun b hb=>Nat.lt_of_lt_of_le (hGl b hb) h3.size) (h.later h3) k hg hk (hm.later h3) s hsz 1 _ _ 1 1 [1] h1 h2 (by decide) (b6d (by decide)))
 have B3:=ι h3
 have HX:=ι h
 clear h hGl hm h1 h2 h3
 go_enter Tryz.func33,Tryz.ntmps33
 go_wp2_with (first
  | (go_at_call 41;refine(qtagsof _ _ _ _).mono ?_;rintro e w2 ⟨rfl,hw⟩;subst hw)
  | (go_at_call 40;refine HS.out.mono ?_;rintro e w5 hd;have D5:=ι (a1x HX.out.row.lt HX.out.apart B3.out hd);obtain⟨rfl,_⟩:=hd))
 go_ret
 exact D5.out
set_option maxRecDepth 100000 in
theorem qsyncdir(w:World)(G:Nat→Prop)(g:Nat)(a:Addr)(st:St)(hGl:∀b,G b→b<w.heap.size)(h:FsAt w G g (.pointer (some a)) st)(k:Nat)(hg:st.good k)(hk:k≤880)(hm:Mx w)(s:ByteArray)(hsz:s.size≤100000) :
  Calls Tryz.prog 14 #[.pointer (some ⟨g,0,none⟩),.string s] w (PDone G g (.pointer (some a)) w (syncV st s 2 [3,2])):=by
 obtain⟨h1,h2,h3⟩:=b4d w [3,2] (by decide) (by decide)
 have HS:=ι (qsettle _ G g a st (fun b hb=>Nat.lt_of_lt_of_le (hGl b hb) h3.size) (h.later h3) k hg hk (hm.later h3) s hsz 2 _ _ 2 2 [3,2] h1 h2 (by decide) (b6d (by decide)))
 have B3:=ι h3
 have HX:=ι h
 clear h hGl hm h1 h2 h3
 go_enter Tryz.func14,Tryz.ntmps14
 go_wp2_with (first
  | (go_at_call 41;refine(qtagsof _ _ _ _).mono ?_;rintro e w2 ⟨rfl,hw⟩;subst hw)
  | (go_at_call 40;refine HS.out.mono ?_;rintro e w5 hd;have D5:=ι (a1x HX.out.row.lt HX.out.apart B3.out hd);obtain⟨rfl,_⟩:=hd))
 go_ret
 exact D5.out
theorem qbarrier(w:World)(G:Nat→Prop)(g:Nat)(a:Addr)(st:St)(h:FsAt w G g (.pointer (some a)) st)(k:Nat)(hg:st.good k)(hk:k≤880) :
  Calls Tryz.prog 34 #[.pointer (some ⟨g,0,none⟩)] w (PDone G g (.pointer (some a)) w (barrier st)):=by
 have HD:=ι (fdisk g _ w h.row)
 have HB:=ι (cbarrier w G _ st h.code (hg.fine (by omega)))
 have HX:=ι h
 clear h
 go_enter Tryz.func34,Tryz.ntmps34
 go_wp2_with (first
  | (go_at_call 16;refine HD.out.mono ?_;rintro e w6 ⟨rfl,hw⟩;obtain rfl:=hw.symm)
  | (go_at_call 75;refine HB.out.mono ?_;rintro e w5 hd;have D5:=ι (b1m HX.out (Below.refl _ _) hd);obtain⟨rfl,_⟩:=hd))
 go_ret
 exact D5.out
end fs
namespace fs
set_option maxRecDepth 100000
open Go.ChangeShapes Go.WideShapes Go.ChangeAt Go.RowKit
open rows
open sec
open dsk (wf64 InS St Wr.c CA barrier cfail)
open ly
open pa
open lk
open al
def fDo7(st:St)(a:FAct):Int×St:=if a.kind=7 then (0,dsk.fail st a.bad) else fDo st a
def qDo(st:St)(a:FAct):Int×St :=
 if a.kind=8 then syncV st a.p 1 [1,2] else if a.kind=9 then syncV st a.p 1 [1] else if a.kind=10 then syncV st a.p 2 [3,2] else if a.kind=11 then barrier st else fDo7 st a
structure BadIn (w:World) (a:FAct) (p2:Option Addr) (n2 c2:Nat):Prop where
 rd:Rd w 1 (.slice p2 n2 c2) n2 (i64s a.bad)
 few:n2≤30
 wf:∀x∈a.bad,wf64 x
theorem BadIn.later{w w':World}{a:FAct}{p2:Option Addr}{n2 c2:Nat}(h:BadIn w a p2 n2 c2)(k:Below w.heap.size w w'):BadIn w' a p2 n2 c2:=⟨h.rd.later k,h.few,h.wf⟩
theorem BadIn.len{w:World}{a:FAct}{p2:Option Addr}{n2 c2:Nat}(h:BadIn w a p2 n2 c2):a.bad.length≤30:=by
 have:=h.rd.cells
 have h2:=h.few
 simp[i64s] at this
 omega
theorem d1q(d:Value)(w:World)(F:Nat→Prop)(f:Value)(st:St)(k:Nat)(s:ByteArray)(h:FI d w F f st)(hg:st.good k)(hk:k≤880)(hm:Mx w)(hs:s.size≤100000):Calls Tryz.prog 12 #[f,.string s] w (FDone (FI d) F f w (syncV st s 1 [1,2])):=by
 obtain⟨g,G,rfl,h2,h3,h4⟩:=h
 obtain⟨a,rfl⟩:=b4s h4.code
 exact(qfsync w _ g a st (fun b hb=>hb.2) (a0y h4) k hg hk hm s hs).mono fun e w' hd=>a3i h2 h3 hd
theorem d4a(d:Value)(w:World)(F:Nat→Prop)(f:Value)(st:St)(k:Nat)(s:ByteArray)(h:FI d w F f st)(hg:st.good k)(hk:k≤880)(hm:Mx w)(hs:s.size≤100000):Calls Tryz.prog 33 #[f,.string s] w (FDone (FI d) F f w (syncV st s 1 [1])):=by
 obtain⟨g,G,rfl,h2,h3,h4⟩:=h
 obtain⟨a,rfl⟩:=b4s h4.code
 exact(qfdata w _ g a st (fun b hb=>hb.2) (a0y h4) k hg hk hm s hs).mono fun e w' hd=>a3i h2 h3 hd
theorem c5z(d:Value)(w:World)(F:Nat→Prop)(f:Value)(st:St)(k:Nat)(s:ByteArray)(h:FI d w F f st)(hg:st.good k)(hk:k≤880)(hm:Mx w)(hs:s.size≤100000):Calls Tryz.prog 14 #[f,.string s] w (FDone (FI d) F f w (syncV st s 2 [3,2])):=by
 obtain⟨g,G,rfl,h2,h3,h4⟩:=h
 obtain⟨a,rfl⟩:=b4s h4.code
 exact(qsyncdir w _ g a st (fun b hb=>hb.2) (a0y h4) k hg hk hm s hs).mono fun e w' hd=>a3i h2 h3 hd
theorem c5g(d:Value)(w:World)(F:Nat→Prop)(f:Value)(st:St)(k:Nat)(h:FI d w F f st)(hg:st.good k)(hk:k≤880):Calls Tryz.prog 34 #[f] w (FDone (FI d) F f w (barrier st)):=by
 obtain⟨g,G,rfl,h2,h3,h4⟩:=h
 obtain⟨a,rfl⟩:=b4s h4.code
 exact(qbarrier w _ g a st (a0y h4) k hg hk).mono fun e w' hd=>a3i h2 h3 hd
theorem fail_fi(d:Value)(w w1:World)(F:Nat→Prop)(f:Value)(st:St)(k:Nat)(zs:List Int)(p:Option Addr)(q c:Nat)(h:FI d w F f st)(hg:st.good k)(hk:k≤880)(hb:Below w.heap.size w w1)(hr:Rd w1 1 (.slice p q c) q (i64s zs))(hin:InS (fun b=>¬F b) (.slice p q c))(hq:q≤50)(hwz:∀x∈zs,wf64 x) :
  Calls Tryz.prog 81 #[d,.slice p q c] w1 fun e w'=>e = .returned (.tuple #[])∧FDone (FI d) F f w (0,dsk.fail st zs) (.returned (.int .i64 0)) w':=by
 obtain⟨g,G,rfl,h2,h3,h4⟩:=h
 have h5:=a0y h4
 refine(cfail w1 _ d st p q c zs (lk.CA.later' h5.code hb) (hg.fine (by omega)) hr (fun a n c' hv hn hh=>hin a n c' hv hn (h3 _ hh.1)) hq hwz).mono ?_
 rintro e w' ⟨rfl,hc,ht⟩
 exact⟨rfl,a3i h2 h3 (b1m h5 hb ⟨rfl,hc,ht⟩)⟩
set_option maxRecDepth 100000 in
set_option maxHeartbeats 1600000 in
theorem d2a(d:Value)(w:World)(F:Nat→Prop)(f:Value)(st:St)(k:Nat)(hf:FI d w F f st)(hg:st.good k)(hk:k≤880)(hm:Mx w)(a:FAct)(p1:Option Addr)(n1 c1:Nat)(p2:Option Addr)(n2 c2:Nat)(ha:ActIn w a (.slice p1 n1 c1) (.slice p2 n2 c2))(hin:InS (fun x=>¬F x) (.slice p1 n1 c1))(hb:BadIn w a p2 n2 c2)(hbin:InS (fun x=>¬F x) (.slice p2 n2 c2)) :
  Calls Tryz.prog 35 #[f,.agg (actC a (.slice p1 n1 c1) (.slice p2 n2 c2))] w (FDone (FI d) F f w (fDo7 st a)):=by
 by_cases h7:a.kind=7
 ·rw[fDo7,if_pos h7]
  obtain⟨kd,pp,qq,nn,bb,bad⟩:=a
  simp only at h7
  subst h7
  have B1:=ι (a0a (Below.refl w.heap.size w) (.cells #[.int .i64 7,.string pp,.string qq,.int .i64 nn,.slice p1 n1 c1,.slice p2 n2 c2] 33))
  have HX:=ι hf
  have HDI:=ι fun w' (hb:Below w.heap.size w w')=>sfsHas.disk d w' F f st k ((sfsIs d).later hf hb) hg hk
  have HFA:=ι fun w' (hb':Below w.heap.size w w')=>fail_fi d w w' F f st k bad p2 n2 c2 hf hg hk hb' (hb.rd.later hb') hbin (by have:=hb.few;omega) hb.wf
  clear hf hg hm ha hin hb hbin
  go_enter Tryz.func35,Tryz.ntmps35
  go_wp2_with fail
  go_region_with (first|(go_at_call 16;refine(HDI.out _ (by first|exact B1.out|exact B1.out.drew)).mono ?_;rintro e w2 ⟨rfl,hw⟩;obtain rfl:=hw.symm)|(go_at_call 81;refine(HFA.out _ (by first|exact B1.out|exact B1.out.drew)).mono ?_;rintro e w3 ⟨rfl,hd⟩;have D3:=ι hd;clear hd))
  go_wp2_with fail
  all_goals
   go_ret
   exact D3.out
 ·rw[fDo7,if_neg h7]
  exact ldo_any (sfsIs d) w F f st k hf hg hk hm a p1 n1 c1 p2 n2 c2 ha hin h7
end fs
namespace fs
set_option maxRecDepth 100000
open Go.ChangeShapes Go.WideShapes Go.ChangeAt Go.RowKit
open rows
open sec
open dsk (InS St w0 syncR leftUpto madeB topOf)
open ly
open pa
open lk
open al
set_option maxRecDepth 100000 in
set_option maxHeartbeats 3200000 in
theorem qdo_any(d:Value)(w:World)(F:Nat→Prop)(f:Value)(st:St)(k:Nat)(hf:FI d w F f st)(hg:st.good k)(hk:k≤880)(hm:Mx w)(a:FAct)(p1:Option Addr)(n1 c1:Nat)(p2:Option Addr)(n2 c2:Nat)(ha:ActIn w a (.slice p1 n1 c1) (.slice p2 n2 c2))(hin:InS (fun x=>¬F x) (.slice p1 n1 c1))(hb:BadIn w a p2 n2 c2)(hbin:InS (fun x=>¬F x) (.slice p2 n2 c2)) :
  Calls Tryz.prog 9 #[f,.agg (actC a (.slice p1 n1 c1) (.slice p2 n2 c2))] w (FDone (FI d) F f w (qDo st a)):=by
 have HB:=ι (a0a (Below.refl w.heap.size w) (.cells (actC a (.slice p1 n1 c1) (.slice p2 n2 c2)) 33))
 have HDO:=ι fun w' (hb':Below w.heap.size w w')=>d2a d w' F f st k ((sfsIs d).later hf hb') hg hk (hm.later hb') a p1 n1 c1 p2 n2 c2 (ha.later hb') hin (hb.later hb') hbin
 have hpz:=ha.p
 have H8:=ι fun w' (hb':Below w.heap.size w w')=>d1q d w' F f st k a.p ((sfsIs d).later hf hb') hg hk (hm.later hb') (by omega)
 have H9:=ι fun w' (hb':Below w.heap.size w w')=>d4a d w' F f st k a.p ((sfsIs d).later hf hb') hg hk (hm.later hb') (by omega)
 have H10:=ι fun w' (hb':Below w.heap.size w w')=>c5z d w' F f st k a.p ((sfsIs d).later hf hb') hg hk (hm.later hb') (by omega)
 have H11:=ι fun w' (hb':Below w.heap.size w w')=>c5g d w' F f st k ((sfsIs d).later hf hb') hg hk
 have HFR:=ι fun(w1:World) (r:Int×St) (e:Ending) (w':World) (hb:Below w.heap.size w w1) (h:FDone (FI d) F f w1 r e w')=>a2j (sfsIs d) hb h
 obtain⟨V,hV⟩:∃V,qDo st a=V:=⟨_,rfl⟩
 rw[hV]
 unfold qDo at hV
 clear hf hg hm ha hin hb hbin hpz
 obtain⟨kd,pp,qq,nn,bb,bad⟩:=a
 simp only at hV H8 H9 H10 HB
 by_cases h8:kd=8
 ·subst h8
  rw[if_pos rfl] at hV
  subst hV
  go_enter Tryz.func9,Tryz.ntmps9
  go_wp2_with (go_at_call 12;refine(H8.out _ HB.out).mono ?_;rintro e w2 hd;have D2:=ι (HFR.out _ _ _ _ HB.out hd);obtain⟨rfl,_⟩:=hd)
  go_ret
  exact D2.out
 have k8:(kd == 8)=false:=beq_eq_false_iff_ne.2 h8
 rw[if_neg h8] at hV
 by_cases h9:kd=9
 ·subst h9
  rw[if_pos rfl] at hV
  subst hV
  clear h8
  go_enter Tryz.func9,Tryz.ntmps9
  go_wp2_with (go_at_call 33;refine(H9.out _ HB.out).mono ?_;rintro e w2 hd;have D2:=ι (HFR.out _ _ _ _ HB.out hd);obtain⟨rfl,_⟩:=hd)
  go_ret
  exact D2.out
 have k9:(kd == 9)=false:=beq_eq_false_iff_ne.2 h9
 rw[if_neg h9] at hV
 by_cases h10:kd=10
 ·subst h10
  rw[if_pos rfl] at hV
  subst hV
  clear h8 h9
  go_enter Tryz.func9,Tryz.ntmps9
  go_wp2_with (go_at_call 14;refine(H10.out _ HB.out).mono ?_;rintro e w2 hd;have D2:=ι (HFR.out _ _ _ _ HB.out hd);obtain⟨rfl,_⟩:=hd)
  go_ret
  exact D2.out
 have k10:(kd == 10)=false:=beq_eq_false_iff_ne.2 h10
 rw[if_neg h10] at hV
 by_cases h11:kd=11
 ·subst h11
  rw[if_pos rfl] at hV
  subst hV
  clear h8 h9 h10
  go_enter Tryz.func9,Tryz.ntmps9
  go_wp2_with (go_at_call 34;refine(H11.out _ HB.out).mono ?_;rintro e w2 hd;have D2:=ι (HFR.out _ _ _ _ HB.out hd);obtain⟨rfl,_⟩:=hd)
  go_ret
  exact D2.out
 have k11:(kd == 11)=false:=beq_eq_false_iff_ne.2 h11
 rw[if_neg h11] at hV
 subst hV
 clear h8 h9 h10 h11
 go_enter Tryz.func9,Tryz.ntmps9
 go_wp2_with (go_at_call 35;refine(HDO.out _ HB.out).mono ?_;rintro e w2 hd;have D2:=ι (HFR.out _ _ _ _ HB.out hd);obtain⟨rfl,_⟩:=hd)
 go_ret
 exact D2.out
theorem b3v{st:St}{k:Nat}(h:st.good k)(ts:List (Int×Int))(hl:ts.length≤50):(syncR st ts).2.good (k+1):=by
 have ha1:=dsk.c5k h
 unfold syncR
 split
 ·exact ha1
 ·have hlen:(dsk.settle st.safe st.wait ts).1.length=st.safe.length:=dsk.a4t _ _ _
  refine⟨dsk.a6x _ _ _ h.ss fun x hx=>(h.ws x hx).1,by show (dsk.settle st.safe st.wait ts).1.length≤65;rw[hlen];exact h.n1,fun x hx => ?_,fun e he => ?_,?_,?_,h.bn,ha1.ep,ha1.asked⟩
  ·have:=h.ws x (dsk.a4b _ _ _ x hx)
   refine⟨this.1,this.2.1,?_⟩
   show x.pos<((dsk.settle st.safe st.wait ts).1.length:Int)
   rw[hlen];exact this.2.2
  ·rcases List.mem_append.1 he with he|he
   ·exact h.es e he
   ·rw[List.mem_singleton.1 he];exact⟨by show Sec w0.s;exact a0i,hl⟩
  ·have:=h.wn
   have h2:=dsk.a5v (madeB ts (topOf ts st.wait)) st.wait st.wait.length
   show (leftUpto _ _ _).length≤k+1
   omega
  ·have:=h.ln;simp;omega
theorem a9f{st:St}{k:Nat}(h:st.good k)(s:ByteArray)(kind:Int)(ks:List Int)(hl:ks.length≤50):(syncV st s kind ks).2.good (k+1):=by
 unfold syncV
 split
 ·exact a0w h (by omega)
 ·split
  ·exact a0w h (by omega)
  ·exact b3v h _ (by simpa using hl)
theorem c6k{st:St}{k:Nat}(h:st.good k)(zs:List Int)(hl:zs.length≤50):(dsk.fail st zs).good k :=
 ⟨h.ss,h.n1,h.ws,h.es,h.wn,h.ln,hl,h.ep,⟨by show (0:Int)≤0;omega,by show (0:Int)≤(k:Int);omega⟩⟩
theorem c7j{st:St}{k:Nat}(h:st.good k)(a:FAct)(hb:∀z∈a.b,0≤z∧z<256)(hbad:a.bad.length≤30):(fDo7 st a).2.good (k+10):=by
 unfold fDo7
 split
 ·exact a0w (c6k h _ (by omega)) (by omega)
 ·exact d3u h a hb
theorem d3r{st:St}{k:Nat}(h:st.good k)(a:FAct)(hb:∀z∈a.b,0≤z∧z<256)(hbad:a.bad.length≤30):(qDo st a).2.good (k+10):=by
 unfold qDo
 repeat' split
 ·exact a0w (a9f h _ _ _ (by simp)) (by omega)
 ·exact a0w (a9f h _ _ _ (by simp)) (by omega)
 ·exact a0w (a9f h _ _ _ (by simp)) (by omega)
 ·exact a0w (a9p h) (by omega)
 ·exact c7j h a hb hbad
theorem d2l{st:St}{k:Nat}(h:st.good k)(ts:List (Int×Int))(hl:ts.length≤50):nowL (syncR st ts).2=nowL st:=by
 have g:=b3v h ts hl
 rw[a6r _ fun x hx=>(g.ws x hx).2,a6r _ fun x hx=>(h.ws x hx).2]
 unfold syncR
 split
 ·rfl
 ·exact dsk.a9v _ _ _ fun x hx=>(h.ws x hx).2.1
end fs
namespace fs
set_option maxRecDepth 100000
open Go.ChangeShapes Go.WideShapes Go.ChangeAt Go.RowKit
open rows
open sec
open dsk (grow St CA st0 b1d b6g)
open ly
open pa
open lk
open al
theorem b3l{w:World}{p:Option Addr}{n c:Nat}{ss:List (List Int)}(hs:Secs ss)(hr:Rd w 32 (.slice p n c) n (cellsOf ss)):ss.length=n:=by
 have:=hr.cells
 rw[a0r hs] at this
 omega
set_option maxRecDepth 100000 in
theorem qfresh(w:World)(p:Option Addr)(n c:Nat)(ss:List (List Int))(hs:Secs ss)(hr:Rd w 32 (.slice p n c) n (cellsOf ss))(hn:n≤200) :
  Calls Tryz.prog 7 #[.slice p n c] w fun e w'=>Below w.heap.size w w'∧((e = .returned (.pointer none)∧mountsB ss=false)∨∃ad d,e = .returned (.pointer (some ad))∧FI d w' (fun b=>w.heap.size≤b∧b<w'.heap.size) (.pointer (some ad)) (st0 ss)∧mountsB ss=true):=by
 have hsl:=b3l hs hr
 by_cases h1:1≤n∧n≤65
 ·have HF:=ι (b1d w p n c ss hs hr h1.1 h1.2)
  have hg:=c2q hs (by omega)
  by_cases hm:mountsB ss=true
  ·have hmv:mountV (st0 ss)=0:=by
    unfold mountV
    rw[b6k,hm,if_neg (show ¬(st0 ss).safe.length=0 by show ¬ss.length=0;omega),if_pos rfl]
   have HM:=ι fun w1 F d (h:CA w1 F d (st0 ss))=>sfsHas.mount w1 F d (st0 ss) 0 h hg (by decide) hmv
   clear hs hr h1 hg hmv
   go_enter Tryz.func7,Tryz.ntmps7
   go_wp2_with (first|(go_at_call 30;refine HF.out.mono ?_;rintro e w1 ⟨ad,rfl,hc,hb⟩;have HC:=ι hc;have B1:=ι hb;clear hc hb)|(go_at_call 31;refine(HM.out _ _ _ HC.out).mono ?_;rintro e w2 ⟨af,rfl,hf,hb⟩;have HFI:=ι hf;have B2:=ι hb;clear hf hb))
   go_ret
   have h1:=B1.out
   have h2:=B2.out
   exact⟨a0b h1 h2,Or.inr ⟨_,_,rfl,(sfsIs _).mono _ _ _ _ _ HFI.out (fun b hb=>by
    have s1:=h1.size
    have s2:=h2.size
    rcases hb with hb|hb<;>omega),hm⟩⟩
  ·have hm0:mountsB ss=false:=by simpa using hm
   have HM:=ι fun w1 F d (h:CA w1 F d (st0 ss))=>b7p w1 d ss (Or.inr ⟨F,st0 ss,h,hg.fine (by omega),(a6r (st0 ss) fun x hx=>(by cases hx)).symm⟩) 8 (Or.inr ⟨by omega,hm0,rfl⟩)
   clear hs hr h1 hg hm
   go_enter Tryz.func7,Tryz.ntmps7
   go_wp2_with (first|(go_at_call 30;refine HF.out.mono ?_;rintro e w1 ⟨ad,rfl,hc,hb⟩;have HC:=ι hc;have B1:=ι hb;clear hc hb)|(go_at_call 31;refine(HM.out _ _ _ HC.out).mono ?_;rintro e w2 ⟨rfl,hb⟩;have B2:=ι hb;clear hb))
   go_ret
   exact⟨a0b B1.out B2.out,Or.inl ⟨rfl,hm0⟩⟩
 ·have HF:=ι (b6g w p n c hn (by omega))
  have HM:=ι fun w1=>b7p w1 (.pointer none) [] (Or.inl ⟨rfl,rfl⟩) 1 (Or.inl ⟨rfl,rfl⟩)
  have hm0:mountsB ss=false:=b2z (by omega)
  clear hs hr h1
  go_enter Tryz.func7,Tryz.ntmps7
  go_wp2_with (first|(go_at_call 30;refine HF.out.mono ?_;rintro e w1 ⟨rfl,hb⟩;have B1:=ι hb;clear hb)|(go_at_call 31;refine(HM.out _).mono ?_;rintro e w2 ⟨rfl,hb⟩;have B2:=ι hb;clear hb))
  go_ret
  exact⟨a0b B1.out B2.out,Or.inl ⟨rfl,hm0⟩⟩
structure QAt (lo:Nat) (d f:Value) (w:World) (F:Nat→Prop) (st:St) (k:Nat):Prop where
 fi:FI d w F f st
 good:st.good k
 inF:∀b,F b→lo≤b∧b<w.heap.size
theorem QAt.later{lo:Nat}{d f:Value}{w w':World}{F:Nat→Prop}{st:St}{k:Nat}(h:QAt lo d f w F st k)(hb:Below w.heap.size w w'):QAt lo d f w' F st k :=
 ⟨(sfsIs d).later h.fi hb,h.good,fun b hF=>⟨(h.inF b hF).1,Nat.lt_of_lt_of_le (h.inF b hF).2 hb.size⟩⟩
theorem QAt.done{lo:Nat}{d f:Value}{w w':World}{F:Nat→Prop}{st:St}{k m:Nat}(h:QAt lo d f w F st k)(hlo:lo≤w.heap.size){r:Int×St}{e:Ending}(D:FDone (FI d) F f w r e w')(hg:r.2.good m):QAt lo d f w' (grow F w w') r.2 m :=
 ⟨D.2.1,hg,fun b hb=>by
  have s:=D.2.2.size
  rcases hb with hb|hb
  ·have:=h.inF b hb;omega
  ·omega⟩
theorem QAt.below{lo:Nat}{d f:Value}{w w':World}{F:Nat→Prop}{st:St}{k:Nat}(h:QAt lo d f w F st k)(hlo:lo≤w.heap.size){r:Int×St}{e:Ending}(D:FDone (FI d) F f w r e w'):Below lo w w':=D.2.2.below hlo fun b hb=>(h.inF b hb).1
theorem QAt.dk{lo:Nat}{d f:Value}{w:World}{F:Nat→Prop}{st:St}{k:Nat}(h:QAt lo d f w F st k)(hk:k≤880):Dk w d (nowL st) :=
 Or.inr ⟨F,st,sfsHas.code d w F f st h.fi,h.good.fine (by omega),(a6r st fun x hx=>(h.good.ws x hx).2).symm⟩
theorem AX.badIn{W:World}{x:AX}(h:x.ok W)(hl:x.light):BadIn W x.a x.p2 x.n2 x.c2:=⟨h.bad,hl.2.2.2,h.bw⟩
theorem c8q{ops:Array Oper}{rest:List Oper}{o:Oper}{a:Go.Act}{w:World}{Q:Exit→Go.Act→World→Prop}(hgd:o.guard=none)(x:Operand)(ho:o.op = .load 33 x)
  (b off:Nat) (hx:a.eval x = .pointer (some ⟨b,off,none⟩)) (y:AX) (hg:w.rangeAt b off y.c)
  (h:wpList Tryz.prog ops Q rest (a.put o.dst (.agg (actC y.a (.slice y.p1 y.n1 y.c1) (.slice y.p2 y.n2 y.c2)))) w):wpList Tryz.prog ops Q (o::rest) a w :=
 wpList_load_mid hgd 33 x ho b off hx y.c _ hg c2m rfl (by rw[d4j];rfl) h
theorem qdo_at{lo:Nat}{d f:Value}{w:World}{F:Nat→Prop}{st:St}{k:Nat}(h:QAt lo d f w F st k)(hk:k≤880)(hm:Mx w)(x:AX){W:World}(hok:x.ok W)(hl:x.light)(hW:Below W.heap.size W w)(hlo:W.heap.size≤lo) :
  Calls Tryz.prog 9 #[f,.agg (actC x.a (.slice x.p1 x.n1 x.c1) (.slice x.p2 x.n2 x.c2))] w (FDone (FI d) F f w (qDo st x.a)) :=
 qdo_any d w F f st k h.fi h.good hk hm x.a x.p1 x.n1 x.c1 x.p2 x.n2 x.c2 ((AX.actIn hok hl).later hW) (fun a m c hv hn hF=>by
  have h1:=d5d hok.rd a m c hv hn
  have h2:=(h.inF _ hF).1
  omega) ((AX.badIn hok hl).later hW) (fun a m c hv hn hF=>by
  have h1:=d5d hok.bad a m c hv hn
  have h2:=(h.inF _ hF).1
  omega)
theorem c9w{st:St}{k:Nat}(h:st.good k){W:World}{x:AX}(hok:x.ok W)(hl:x.light):(qDo st x.a).2.good (k+10) :=
 d3r h _ hok.bb (AX.badIn hok hl).len
end fs
namespace lk
set_option maxRecDepth 100000
open rows
open sec
open ly
open pa
open al
open fs
open dsk (St barrier syncR)
theorem ci_fdo{st:St}(G:Good st)(a:FAct)(hb:∀z∈a.b,0≤z∧z<256):Good (fDo st a).2:=by
 unfold fDo
 split
 ·exact c9n G a.p (Or.inl rfl)
 split
 ·exact c9n G a.p (Or.inr rfl)
 split
 ·exact c2j G a.p a.n a.b hb
 split
 ·exact c7z G a.p a.b hb
 split
 ·exact d3s G a.p a.n
 split
 ·exact c7i G a.p a.q
 split
 ·exact c6m G a.p
 ·exact G
theorem c5u{st:St}(G:Good st):Good (barrier st).2:=by
 obtain⟨st',e,g,n⟩:=a8n G.2
 rw[e]
 exact⟨by show CI (nowL st');rw[n];exact G.1,g⟩
theorem d3w{st:St}(G:Good st){k:Nat}(hg:st.good k)(ts:List (Int×Int))(hl:ts.length≤50):Good (syncR st ts).2:=by
 have hn:=d2l hg ts hl
 refine⟨by rw[hn];exact G.1,?_,?_,by rw[hn];exact G.2.top⟩
 ·unfold syncR
  split<;>exact G.2.bad
 ·unfold syncR
  split
  ·exact G.2.len
  ·exact(dsk.a4t _ _ _).trans G.2.len
theorem b4y{st:St}(G:Good st){k:Nat}(hg:st.good k)(s:ByteArray)(kind:Int)(ks:List Int)(hl:ks.length≤50):Good (syncV st s kind ks).2:=by
 unfold syncV
 split
 ·exact G
 ·split
  ·exact G
  ·exact d3w G hg _ (by simpa using hl)
theorem ci_qdo{st:St}(G:Good st){k:Nat}(hg:st.good k)(a:FAct)(h7:a.kind≠7)(hb:∀z∈a.b,0≤z∧z<256):Good (qDo st a).2:=by
 unfold qDo
 split
 ·exact b4y G hg a.p 1 [1,2] (by decide)
 split
 ·exact b4y G hg a.p 1 [1] (by decide)
 split
 ·exact b4y G hg a.p 2 [3,2] (by decide)
 split
 ·exact c5u G
 ·rw[fDo7,if_neg h7]
  exact ci_fdo G a hb
end lk
end Go.Proofs.YtpnahagiojelbaaGreatDoor
