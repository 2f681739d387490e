/- What CheckStays wants, part 32. -/
import Derived.Test.YtpnahagiojelbaaGreatDoorCheckStaysA
import Derived.Test.YtpnahagiojelbaaGreatDoorCheckStaysB
import Derived.Test.YtpnahagiojelbaaGreatDoorCheckStaysQ
import Derived.Test.YtpnahagiojelbaaGreatDoorCheckStaysT
import Derived.Test.YtpnahagiojelbaaGreatDoorCheckStaysZE
set_option linter.unusedVariables false
set_option linter.unusedSimpArgs false
namespace Go.Proofs.YtpnahagiojelbaaGreatDoor
namespace fs
set_option maxRecDepth 100000
open Go.ChangeShapes Go.WideShapes Go.ChangeAt Go.RowKit
open rows
open sec
open dsk (grow St)
open ly
open pa
open lk
open al
def putV(st:St)(L:List (List Int))(n:Int)(x:Ino)(off:Int)(b:List Int):Int×St :=
 if off<0∨x.size<off then (1,st)
 else if 128-off<(b.length:Int) then (2,st)
 else
  let w:=((need (max x.size (off+b.length)).toNat:Nat):Int)-(need x.size.toNat:Nat)
  if blkB L w=false then (2,st)
  else
   let y:=grownI x off.toNat b.length (blkL L w)
   doR st (blksW L n y (need x.size.toNat) off.toNat b 4++if y=x then [] else [wIno n y])
theorem b1s(st:St)(s:ByteArray)(off:Int)(b:List Int):writeFV st s off b=if (fileV (nowL st) s).2.2≠0 then ((fileV (nowL st) s).2.2,st) else putV st (nowL st) (fileV (nowL st) s).1 (fileV (nowL st) s).2.1 off b:=rfl
theorem c7d(ss:List (List Int)):∀b,∀z∈frU ss b,1≤z∧z<b
 | 0,z,hz=>by simp[frU] at hz
 | b+1,z,hz=>by
  rw[frU] at hz
  split at hz
  ·have:=c7d ss b z hz;omega
  ·rename_i hu
   rcases List.mem_append.1 hz with hz|hz
   ·have:=c7d ss b z hz;omega
   ·rw[List.mem_singleton.1 hz]
    have:b≠0:=fun e=>hu (by subst e;simp[used0])
    omega
theorem blkL_in{L:List (List Int)}{w z:Int}(h:z∈blkL L w):1≤z∧z≤24:=by
 unfold blkL at h
 split at h
 ·obtain⟨n,hn,rfl⟩:=List.mem_map.1 h
  have:=c7d L 25 n (List.mem_of_mem_take hn)
  omega
 ·cases h
theorem d2r{L:List (List Int)}{n:Int}(hk:(inoAt L n).kind=1):0≤(inoAt L n).size∧(inoAt L n).size≤128∧∀i,i<4→(i<need (inoAt L n).size.toNat→1≤(inoAt L n).b.getD i 0∧(inoAt L n).b.getD i 0≤24)∧(¬i<need (inoAt L n).size.toNat→(inoAt L n).b.getD i 0=0):=by
 have h:=a3r (ss:=L) n
 generalize inoAt L n=x at *
 rw[a1p hk,Bool.and_eq_true,Bool.and_eq_true,decide_eq_true_eq,decide_eq_true_eq] at h
 refine⟨h.1.1,h.1.2,fun i hi => ?_⟩
 have hb:=b2h h.2 i hi
 constructor
 ·intro hl
  rw[a3p hl] at hb
  simp only[Bool.and_eq_true,decide_eq_true_eq] at hb
  exact hb.1
 ·intro hl
  rw[a4r hl,beq_iff_eq] at hb
  exact hb
theorem d4f{L:List (List Int)}{x:Ino}{o m:Nat}(hx:x.b.length=4)(h0:0≤x.size):(growV L x (o+m)).2=blkB L (((need (max x.size ((o:Int)+(m:Nat))).toNat:Nat):Int)-(need x.size.toNat:Nat)) ∧
  (blkB L (((need (max x.size ((o:Int)+(m:Nat))).toNat:Nat):Int)-(need x.size.toNat:Nat))=true→(growV L x (o+m)).1=grownI x o m (blkL L (((need (max x.size ((o:Int)+(m:Nat))).toNat:Nat):Int)-(need x.size.toNat:Nat)))):=by
 unfold growV grownI
 by_cases h:((o+m:Nat):Int)≤x.size
 ·rw[if_pos h]
  have e:max x.size ((o:Int)+(m:Nat))=x.size:=by omega
  have e2:max x.size ((o+m:Nat):Int)=x.size:=by omega
  rw[e,e2,Int.sub_self]
  have hb:blkB L 0=true:=by rw[blkB,decide_eq_true_eq];omega
  have hl:blkL L 0=[]:=List.eq_nil_of_length_eq_zero (by have:=a8o hb;omega)
  rw[hb,hl]
  refine⟨rfl,fun _ => ?_⟩
  obtain⟨kd,sz,bl⟩:=x
  simp
 ·rw[if_neg h]
  have e:max x.size ((o:Int)+(m:Nat))=((o+m:Nat):Int):=by omega
  have e2:max x.size ((o+m:Nat):Int)=((o+m:Nat):Int):=by omega
  rw[e,e2,Int.toNat_natCast]
  generalize hz:((need (o+m):Nat):Int)-(need x.size.toNat:Nat)=z
  cases hb:blkB L z with
  | false=>exact⟨rfl,fun h=>by cases h⟩
  | true=>exact⟨rfl,fun _=>rfl⟩
theorem c7v{L:List (List Int)}{x:Ino}(hx:x.b.length=4)(hb:∀i,i<4→0≤x.b.getD i 0∧x.b.getD i 0≤24)(had:Nat)(w:Int)(hl:had+(blkL L w).length≤4):(x.b.take had++blkL L w++x.b.drop (had+(blkL L w).length)).length=4∧(∀z∈(x.b.take had++blkL L w++x.b.drop (had+(blkL L w).length)),0≤z∧z≤24)∧(∀i,i<had→(x.b.take had++blkL L w++x.b.drop (had+(blkL L w).length)).getD i 0=x.b.getD i 0):=by
 have hxm:∀z∈x.b,0≤z∧z≤24:=fun z hz=>by
  obtain⟨i,hi,rfl⟩:=List.mem_iff_getElem.1 hz
  have:=hb i (by omega)
  simpa [List.getD,hi] using this
 refine⟨by simp[hx];omega,fun z hz => ?_,fun i hi => ?_⟩
 ·rcases List.mem_append.1 hz with hz|hz
  ·rcases List.mem_append.1 hz with hz|hz
   ·exact hxm z (List.mem_of_mem_take hz)
   ·have:=blkL_in hz;omega
  ·exact hxm z (List.mem_of_mem_drop hz)
 ·simp only[List.getD]
  rw[List.append_assoc,List.getElem?_append_left (by rw[List.length_take];omega),List.getElem?_take_of_lt hi]
theorem b9i{L:List (List Int)}(n:Int){x y:Ino}{had off:Nat}{b:List Int}(h1:∀i,i<4→i<had→1≤x.b.getD i 0∧y.b.getD i 0=x.b.getD i 0)(h2:∀i,i<4→¬i<had→x.b.getD i 0=0):fillL L n x.b y.b off b ((List.range 4).filter (hitB off b.length))=(blksW L n y had off b 4).map fun z=>(z,false):=by
 unfold fillL blksW
 rw[List.map_map]
 refine List.map_congr_left fun i hi => ?_
 have hi4:i<4:=List.mem_range.1 (List.mem_filter.1 hi).1
 have hc:=d4d (L:=L) (x:=x) (y:=y) (had:=had) (i:=i) (h1 i hi4) (h2 i hi4)
 simp only[Function.comp,stepF,hc]
theorem c5f{l:List Int}(h:∀z∈l,0≤z∧z≤24)(i:Nat):0≤l.getD i 0∧l.getD i 0≤200:=by
 by_cases hi:i<l.length
 ·have:=h _ (List.getElem_mem hi)
  simp only[List.getD,List.getElem?_eq_getElem hi,Option.getD_some]
  omega
 ·simp only[List.getD,List.getElem?_eq_none (Nat.le_of_not_lt hi),Option.getD_none]
  omega
end fs
namespace fs
set_option maxRecDepth 100000
open Go.ChangeShapes Go.WideShapes Go.ChangeAt Go.RowKit
open rows
open sec
open dsk (wf64 a0g St Wr Wr.ok Wr.c a0p)
open ly
open pa
open lk
open al
theorem d0g{G:Nat→Prop}{g:Nat}{d:Value}{st:St}{w:World}(hGl:∀b,G b→b<w.heap.size)(h:FsAt w G g d st){k:Nat}(hg:st.good k)(hk:k+20≤900)(xs:List (Wr×Bool))(q:Option Addr)(kq c':Nat)(w1:World)(hb:Below w.heap.size w w1)(B:Nat)(hB:w.heap.size≤B)(ho:rows.Own w1 B 187 37 (.slice q kq c') kq (stsC xs))(hm:kq≤10)(hok:∀x∈xs,x.1.ok) :
  Calls Tryz.prog 120 #[.pointer (some ⟨g,0,none⟩),.slice q kq c'] w1 (PDone G g d w (runV st xs)) :=
 (fperform G g d st xs q kq c' w1 (h.later hb) k hg (by omega) hm ho.rd (fun a m c hv hm hh=>by
  have h1:=hGl _ hh
  have h2:=dsk.b9t ho a m c hv hm
  have h3:B≤a.block:=h2.1
  omega) hok).mono fun e w' hd=>a1x h.row.lt h.apart hb hd
theorem d2p{L:List (List Int)}(hs:Secs L){n:Int}(hn:0≤n∧n<16){ob nb:List Int}(hnb:∀i,0≤nb.getD i 0∧nb.getD i 0≤200){b:List Int}(hbb:∀x∈b,0≤x∧x<256)(off i:Nat):(stepF L n ob nb off b i).ok:=by
 have h:=hnb i
 exact⟨b8a (a5z hs _) hbb off i,a0f (by show 0≤40+nb.getD i 0∧40+nb.getD i 0<256;omega),a0f (by show (0:Int)≤1∧(1:Int)<256;omega),a0f (by show 0≤n∧n<256;omega),a0f (by show (0:Int)≤0∧(0:Int)<256;omega)⟩
set_option maxRecDepth 100000 in
set_option maxHeartbeats 6400000 in
theorem fput(G:Nat→Prop)(g:Nat)(d:Value)(st:St)(w:World)(hGl:∀b,G b→b<w.heap.size)(h:FsAt w G g d st)(k:Nat)(hg:st.good k)(hk:k+20≤900)(n:Int)(hn:0≤n∧n<16)(x:Ino)(hxe:x=inoAt (nowL st) n)(hkd:(inoAt (nowL st) n).kind=1)(off:Int)(ho:wf64 off)(p:Option Addr)(m c:Nat)(b:List Int)(hb:Rd w 1 (.slice p m c) m (b.map (Value.int .u8)))(hm:m≤300)(hbb:∀x∈b,0≤x∧x<256) :
  Calls Tryz.prog 70 #[.pointer (some ⟨g,0,none⟩),.int .i64 n,aggI x,.int .i64 off,.slice p m c] w (PDone G g d w (putV st (nowL st) n x off b)):=by
 have HR:=ι h
 have HK:=h.known hg (by omega)
 have HKx:=ι HK
 have hsec:=HK.dk.secs.1
 have HPM:=ι fun xs q kq c' w1 (hb:Below w.heap.size w w1) B (hB:w.heap.size≤B) (ho:rows.Own w1 B 187 37 (.slice q kq c') kq (stsC xs)) (hm:kq≤10) (hok:∀x∈xs,x.1.ok)=>d0g hGl h hg hk xs q kq c' w1 hb B hB ho hm hok
 obtain⟨f0,f1,f2⟩:=d2r hkd
 have hok:=c1h hsec n
 rw[← hxe] at f0 f1 f2 hok
 have H4:=ι hok.four
 have hbl:b.length=m:=by have:=hb.cells;rw[List.length_map] at this;omega
 have HB0:=ι hb
 have HBB:=ι hbb
 have HS:=ι hsec
 obtain⟨o1,o2⟩:=rows.wf_i64 ho
 obtain⟨V,hV⟩:∃V,putV st (nowL st) n x off b=V:=⟨_,rfl⟩
 rw[hV]
 unfold putV at hV
 generalize nowL st=L at *
 have A0:Hid (AtI (w.alloc (.cells x.c.toArray 75)) w.heap.size x):=ι (a5s w x)
 have B0:Hid (Below w.heap.size w (w.alloc (.cells x.c.toArray 75))):=ι (a0a (Below.refl _ _) _)
 obtain⟨W,hW⟩:∃W,w.alloc (.cells x.c.toArray 75)=W:=⟨_,rfl⟩
 rw[hW] at A0 B0
 have c1:=A0.out.cell1
 have hmi:(m:Int)≤300:=by omega
 clear h hg hk hGl HK hsec hb hbb ho hkd hxe
 by_cases hz0:off<0
 ·rw[if_pos (Or.inl hz0)] at hV
  subst hV
  clear HPM hok
  go_enter Tryz.func70,Tryz.ntmps70
  go_upto_region 1 with fail
  try rw[hW]
  clear hW
  go_wp2_with fail
  go_ret
  exact a0h HR.out B0.out
 by_cases hz1:x.size<off
 ·rw[if_pos (Or.inr hz1)] at hV
  subst hV
  have hzz:0≤off:=by omega
  clear HPM hok
  go_enter Tryz.func70,Tryz.ntmps70
  go_upto_region 1 with fail
  try rw[hW]
  clear hW
  go_wp2_with fail
  go_ret
  exact a0h HR.out B0.out
 rw[if_neg (by omega)] at hV
 obtain⟨o,rfl⟩:=Int.eq_ofNat_of_zero_le (show 0≤off by omega)
 have ho128:o≤128:=by omega
 have hzz:(0:Int)≤o:=by omega
 have hzy:(o:Int)≤x.size:=by omega
 by_cases hr0:128-(o:Int)<(m:Int)
 ·rw[hbl,if_pos hr0] at hV
  subst hV
  have hov:(128:Int)<(o:Int)+(m:Int):=by omega
  clear HPM hok
  go_enter Tryz.func70,Tryz.ntmps70
  go_upto_region 1 with fail
  try rw[hW]
  clear hW
  go_wp2_with fail
  go_ret
  exact a0h HR.out B0.out
 rw[hbl,if_neg hr0] at hV
 have hom:o+m≤128:=by omega
 have hov:¬(128:Int)<(o:Int)+(m:Int):=by omega
 have HGR:=ι fun w' (hb:Below w.heap.size w w')=>fgrow w' g d L x H4.out f0 f1 (o+m) hom (HKx.out.later hb)
 obtain⟨g1,g2⟩:=d4f (L:=L) (o:=o) (m:=m) H4.out f0
 have hb24:∀i,i<4→0≤x.b.getD i 0∧x.b.getD i 0≤24:=fun i hi=>by
  have:=f2 i hi
  by_cases hh:i<need x.size.toNat
  ·have:=this.1 hh;omega
  ·have:=this.2 hh;omega
 dsimp only at hV
 have hnd:need (max x.size ((o:Int)+(m:Nat))).toNat≤4∧need x.size.toNat≤need (max x.size ((o:Int)+(m:Nat))).toNat:=by unfold need;omega
 have hfl:=fun hb=>a8o (L:=L) (z:=((need (max x.size ((o:Int)+(m:Nat))).toNat:Nat):Int)-(need x.size.toNat:Nat)) hb
 generalize hz:((need (max x.size ((o:Int)+(m:Nat))).toNat:Nat):Int)-(need x.size.toNat:Nat)=z at *
 generalize hgv:growV L x (o+m)=gv at *
 obtain⟨y,yb⟩:=gv
 simp only at g1 g2 HGR
 subst g1
 rw[show (((o+m:Nat)):Int)=(o:Int)+(m:Int) by omega] at HGR
 cases hbb:blkB L z with
 | false =>
  rw[hbb,if_pos rfl] at hV
  subst hV
  rw[hbb] at HGR
  have HY4:Hid (y.b.length=4):=ι (by have:=b2w (L:=L) (m:=o+m) H4.out hom f0;rw[hgv] at this;exact this)
  clear HPM hok g2 f2 hb24 hfl hz hgv
  go_enter Tryz.func70,Tryz.ntmps70
  go_upto_region 1 with fail
  try rw[hW]
  clear hW
  go_wp2_with (first|(refine a0z rfl (.tmp 7) rfl w.heap.size rfl x H4.out A0.out ?_)|(go_at_call 124;refine(HGR.out _ B0.out).mono ?_;rintro e w2 ⟨rfl,hb⟩;have B2:=ι (a0b B0.out hb);clear hb)|(refine a0m rfl (.tmp 11) (.tmp 35) rfl rfl w2.heap.size y ino0 rfl rfl HY4.out rfl (a1s w2) ?_;intro w3 hA hB _;have B3:=ι (a0b B2.out ((a0a (Below.refl _ w2) _).trans hB));clear hA hB))
  go_ret
  exact a0h HR.out B3.out
 | true =>
  rw[hbb,if_neg (by decide),Int.toNat_natCast] at hV
  rw[hbb] at HGR
  have hy:=g2 hbb
  have hlf:=hfl hbb
  rw[← hy] at hV
  obtain⟨q1,q2,q3⟩:=c7v (L:=L) H4.out hb24 (need x.size.toNat) z (by omega)
  have hyb:y.b=x.b.take (need x.size.toNat)++blkL L z++x.b.drop (need x.size.toNat+(blkL L z).length):=by rw[hy];rfl
  have hyk:y.kind=x.kind:=by rw[hy];rfl
  have hys:y.size=max x.size ((o+m:Nat):Int):=by rw[hy];rfl
  rw[← hyb] at q1 q2 q3
  have okY:y.ok:=⟨q1,by rw[hyk];exact hok.kind,by rw[hys];exact WalkArith.wf_i64 (by omega),fun zz hzz=>a0f (by have:=q2 zz hzz;omega)⟩
  have HY4:=ι q1
  have HOK:=ι okY
  have HNB:=ι (c5f q2)
  have HOB:Hid (∀i,0≤x.b.getD i 0∧x.b.getD i 0≤200):=ι fun i=>by
   by_cases hi:i<4
   ·have:=hb24 i hi;omega
   ·simp only[List.getD,List.getElem?_eq_none (show x.b.length≤i by rw[H4.out];omega),Option.getD_none];omega
  have HFW:=ι (b9i (L:=L) n (x:=x) (y:=y) (had:=need x.size.toNat) (off:=o) (b:=b) (fun i hi4 hi=>⟨((f2 i hi4).1 hi).1,q3 i hi⟩) (fun i hi4 hi=>(f2 i hi4).2 hi))
  rw[hbl] at HFW
  have HFI:=ι fun w' (hb:Below w.heap.size w w')=>ffill w' g d L (HKx.out.later hb) n x.b y.b H4.out q1 HOB.out HNB.out o m p c b (HB0.out.later hb) HBB.out hom
  have HOS:=ι fun i=>d2p (L:=L) HS.out hn (ob:=x.b) (nb:=y.b) HNB.out HBB.out o i
  have okI:=c0r (n:=n) (x:=y) (by omega) q1
  have HIS:=ι fun w'=>finodeStep n (by omega) y okY w'
  have HOF:Hid (∀xx∈fillL L n x.b y.b o b ((List.range 4).filter (hitB o m)),xx.1.ok):=ι fun xx hx=>by
   obtain⟨i,_,rfl⟩:=List.mem_map.1 hx
   exact HOS.out i
  have HLE:Hid (((List.range 4).filter (hitB o m)).length≤4):=ι (by have:=List.length_filter_le (hitB o m) (List.range 4);simpa using this)
  have HI:=ι okI
  generalize blksW L n y (need x.size.toNat) o b 4=bw at *
  generalize (List.range 4).filter (hitB o m)=hl at *
  generalize hfx:fillL L n x.b y.b o b hl=FX at *
  generalize hwi:wIno n y=wi at *
  have hEQ:=fun w'=>c1o w' q1 H4.out
  have hguard:=b7d
  obtain⟨yx,hyx⟩:∃yx,decide (y=x)=yx:=⟨_,rfl⟩
  rw[hyx] at hEQ
  clear okI okY hok q2 q3 hyb hyk hys hy hlf g2 f2 hb24 hfl hz hgv hwi hfx q1
  go_enter Tryz.func70,Tryz.ntmps70
  go_upto_region 1 with fail
  try rw[hW]
  clear hW
  go_upto_region 9 with(first|(refine a0z rfl (.tmp 7) rfl w.heap.size rfl x H4.out A0.out ?_)|(go_at_call 124;refine(HGR.out _ B0.out).mono ?_;rintro e w2 ⟨rfl,hb⟩;have B2:=ι (a0b B0.out hb);have A2:=ι (A0.out.later hb);clear hb)|(refine a0m rfl (.tmp 11) (.tmp 35) rfl rfl w2.heap.size y ino0 rfl rfl HY4.out rfl (a1s w2) ?_;intro w3 hA hB _;have hb3:=(a0a (Below.refl _ w2) _).trans hB;have B3:=ι (a0b B2.out hb3);have A3:=ι (A2.out.later hb3);have Y3:=ι hA;clear hA hB hb3)|(refine a7y (by rfl) (.tmp 41) rfl w.heap.size rfl x H4.out A3.out ?_)|(refine a7y (by rfl) (.tmp 43) rfl w2.heap.size rfl y HY4.out Y3.out ?_)|(go_at_call 125;refine(HFI.out _ B3.out).mono ?_;rintro e w4 ⟨q,kq,c',rfl,hkq,hown,hb⟩;have B4:=ι (a0b B3.out hb);have A4:=ι (A3.out.later hb);have Y4:=ι (Y3.out.later hb);have O4:=ι hown;have KQ:=ι hkq;have b4:=ι hb;clear hb hown hkq))
  clear c1
  have hkq4:kq≤4:=by have:=KQ.out;have:=HLE.out;omega
  cases yx with
  | true =>
   have hyx2:y=x:=of_decide_eq_true hyx
   rw[if_pos hyx2,List.append_nil] at hV
   have HPF:=ι (HPM.out FX q kq c' w4 B4.out _ B3.out.size O4.out (by omega) HOF.out)
   rw[HFW.out,a6f,hV] at HPF
   clear hyx hyx2 HPM
   go_wp2_with (first|(refine a0z rfl (.tmp 11) rfl w2.heap.size rfl y HY4.out Y4.out ?_)|(refine a0z rfl (.tmp 7) rfl w.heap.size rfl x H4.out A4.out ?_)|(go_at_call 120;refine HPF.out.mono ?_;rintro e w8 hd8;have D8:=ι hd8;obtain⟨rfl,_⟩:=hd8))
   go_ret
   exact D8.out
  | false =>
   have hyx2:¬y=x:=of_decide_eq_false hyx
   rw[if_neg hyx2] at hV
   have HPF:=ι fun q5 c5 w7 hb ho=>HPM.out (FX++[(wi,false)]) q5 (kq+1) c5 w7 hb w3.heap.size B3.out.size ho (by omega) (fun xx hx=>by
    rcases List.mem_append.1 hx with hx|hx
    ·exact HOF.out xx hx
    ·rw[List.mem_singleton.1 hx];exact HI.out)
   rw[HFW.out,show (bw.map fun z=>(z,false))++[(wi,false)]=(bw++[wi]).map (fun z=>(z,false)) by simp,a6f,hV] at HPF
   clear hyx hyx2 HPM
   go_wp2_with (first
    | (refine a0z rfl (.tmp 11) rfl w2.heap.size rfl y HY4.out Y4.out ?_)
    | (refine a0z rfl (.tmp 7) rfl w.heap.size rfl x H4.out A4.out ?_)
    | (go_at_call 121;refine(HIS.out _).mono ?_;rintro e w5 ⟨rfl,hb⟩;have B5:=ι (a0b B4.out hb);have O5:=ι (a1g O4.out hb);have b5:=ι hb;clear hb)
    | (refine a0g elem_sts (by decide) rfl (.tmp 54) rfl (stC wi false) rfl (a1c HI.out.1) ?_)
    | (at_builtin;refine b7s elem_sts rfl (.tmp 51) (.tmp 55) rfl w3.heap.size _ kq _ rfl (O5.out.alloc _) _ 1 (stC wi false) rfl (a0p _ 187 37 (stC wi false) (a1c HI.out.1)) (b5p wi false) (by omega) (by have h5:=b5.out.size;have h4:=b4.out.size;simp;omega) ?_;intro pa ca w7 ho7 hb7;have O7:Hid (rows.Own w7 w3.heap.size 187 37 (.slice pa (kq+1) ca) (kq+1) (stsC ((bw++[wi]).map fun z=>(z,false)))):=ι (by rw[List.map_append,List.map_cons,List.map_nil,b6p,← HFW.out];exact ho7);have B7:=ι ((a0a B5.out _).trans (hb7.mono B3.out.size));clear ho7 hb7)
    | (go_at_call 120;refine(HPF.out pa ca w7 B7.out O7.out).mono ?_;rintro e w8 hd8;have D8:=ι hd8;obtain⟨rfl,_⟩:=hd8))
   go_ret
   exact D8.out
set_option maxRecDepth 100000 in
theorem fwrite(G:Nat→Prop)(g:Nat)(d:Value)(st:St)(w:World)(hGl:∀b,G b→b<w.heap.size)(h:FsAt w G g d st)(k:Nat)(hg:st.good k)(hk:k+20≤900)(hmx:Mx w)(s:ByteArray)(hsz:s.size≤100000)(off:Int)(ho:wf64 off)(p:Option Addr)(m c:Nat)(b:List Int)(hb:Rd w 1 (.slice p m c) m (b.map (Value.int .u8)))(hm:m≤300)(hbb:∀x∈b,0≤x∧x<256) :
  Calls Tryz.prog 77 #[.pointer (some ⟨g,0,none⟩),.string s,.int .i64 off,.slice p m c] w (PDone G g d w (writeFV st s off b)):=by
 have HR:=ι h
 have HK:=h.known hg (by omega)
 have hsec:=HK.dk.secs.1
 have HF:=ι (ffile w g d (nowL st) s HK hmx hsz)
 have H4:=ι (a4k hsec s)
 have hfi:=b2i hsec s
 rw[b1s]
 have HPT:=ι fun w1 (hb1:Below w.heap.size w w1) (he:(fileV (nowL st) s).2.2=0)=>(fput G g d st w1 (fun b hG=>Nat.lt_of_lt_of_le (hGl b hG) hb1.size) (h.later hb1) k hg hk (fileV (nowL st) s).1 (hfi he).2.2 (fileV (nowL st) s).2.1 (hfi he).1 (hfi he).2.1 off ho p m c b (hb.later hb1) hm hbb).mono fun e w' hd=>a1x h.row.lt h.apart hb1 hd
 generalize nowL st=L at *
 generalize fileV L s=F at *
 obtain⟨n,x,er⟩:=F
 unfold fileT at HF
 simp only at HF H4 HPT
 clear h hg hk hsz hsec HK hGl hmx hb hbb ho hfi
 by_cases he:er=0
 ·subst he
  have HPX:=ι fun w1 hb1=>HPT.out w1 hb1 rfl
  simp only[ne_eq,not_true_eq_false,if_false]
  generalize putV st L n x off b=V at *
  clear HPT
  go_enter Tryz.func77,Tryz.ntmps77
  go_wp2_with (first|(go_at_call 36;refine HF.out.mono ?_;rintro e w1 ⟨rfl,hb⟩;have B1:=ι hb;clear hb)|(refine a0m rfl (.tmp 10) (.tmp 17) rfl rfl w1.heap.size x ino0 rfl rfl H4.out rfl (a1s w1) ?_;intro w2 hA hB _;have B2:=ι (a0b B1.out ((a0a (Below.refl _ w1) _).trans hB));have A2:=ι hA;clear hA hB)|(refine a0z rfl (.tmp 10) rfl w1.heap.size rfl x H4.out A2.out ?_)|(go_at_call 70;refine(HPX.out _ B2.out).mono ?_;rintro e w8 hd8;have D8:=ι hd8;obtain⟨rfl,_⟩:=hd8))
  go_ret
  exact D8.out
 ·rw[if_pos he]
  have heb:(er != 0)=true:=by simpa using he
  clear HPT
  go_enter Tryz.func77,Tryz.ntmps77
  go_wp2_with (first|(go_at_call 36;refine HF.out.mono ?_;rintro e w1 ⟨rfl,hb⟩;have B1:=ι hb;clear hb)|(refine a0m rfl (.tmp 10) (.tmp 17) rfl rfl w1.heap.size x ino0 rfl rfl H4.out rfl (a1s w1) ?_;intro w2 hA hB _;have B2:=ι (a0b B1.out ((a0a (Below.refl _ w1) _).trans hB));clear hA hB))
  go_ret
  exact a0h HR.out B2.out
set_option maxRecDepth 100000 in
theorem fappend(G:Nat→Prop)(g:Nat)(d:Value)(st:St)(w:World)(hGl:∀b,G b→b<w.heap.size)(h:FsAt w G g d st)(k:Nat)(hg:st.good k)(hk:k+20≤900)(hmx:Mx w)(s:ByteArray)(hsz:s.size≤100000)(p:Option Addr)(m c:Nat)(b:List Int)(hb:Rd w 1 (.slice p m c) m (b.map (Value.int .u8)))(hm:m≤300)(hbb:∀x∈b,0≤x∧x<256) :
  Calls Tryz.prog 26 #[.pointer (some ⟨g,0,none⟩),.string s,.slice p m c] w (PDone G g d w (appendV st s b)):=by
 have HR:=ι h
 have HK:=h.known hg (by omega)
 have hsec:=HK.dk.secs.1
 have HF:=ι (ffile w g d (nowL st) s HK hmx hsz)
 have H4:=ι (a4k hsec s)
 have hfi:=b2i hsec s
 have hff:=fun hh=>b5r hsec (fileV (nowL st) s).1 hh
 have HPT:=ι fun w1 (hb1:Below w.heap.size w w1) (he:(fileV (nowL st) s).2.2=0)=>(fput G g d st w1 (fun b hG=>Nat.lt_of_lt_of_le (hGl b hG) hb1.size) (h.later hb1) k hg hk (fileV (nowL st) s).1 (hfi he).2.2 (fileV (nowL st) s).2.1 (hfi he).1 (hfi he).2.1 (fileV (nowL st) s).2.1.size (WalkArith.wf_i64 (by have h1:=(hfi he).2.1;have h2:=hff h1;rw[(hfi he).1];omega)) p m c b (hb.later hb1) hm hbb).mono fun e w' hd=>a1x h.row.lt h.apart hb1 hd
 have HAV:appendV st s b=if (fileV (nowL st) s).2.2≠0 then ((fileV (nowL st) s).2.2,st) else putV st (nowL st) (fileV (nowL st) s).1 (fileV (nowL st) s).2.1 (fileV (nowL st) s).2.1.size b:=by
  unfold appendV
  split
  ·rfl
  ·rename_i hh
   rw[b1s,if_neg hh]
 rw[HAV]
 generalize nowL st=L at *
 generalize fileV L s=F at *
 obtain⟨n,x,er⟩:=F
 unfold fileT at HF
 simp only at HF H4 HPT
 clear h hg hk hsz hsec HK hGl hmx hb hbb hfi hff HAV
 by_cases he:er=0
 ·subst he
  have HPX:=ι fun w1 hb1=>HPT.out w1 hb1 rfl
  simp only[ne_eq,not_true_eq_false,if_false]
  generalize putV st L n x x.size b=V at *
  clear HPT
  go_enter Tryz.func26,Tryz.ntmps26
  go_wp2_with (first|(go_at_call 36;refine HF.out.mono ?_;rintro e w1 ⟨rfl,hb⟩;have B1:=ι hb;clear hb)|(refine a0m rfl (.tmp 8) (.tmp 15) rfl rfl w1.heap.size x ino0 rfl rfl H4.out rfl (a1s w1) ?_;intro w2 hA hB _;have B2:=ι (a0b B1.out ((a0a (Below.refl _ w1) _).trans hB));have A2:=ι hA;have c1:=hA.cell1;clear hA hB)|(refine a0z rfl (.tmp 8) rfl w1.heap.size rfl x H4.out A2.out ?_)|(go_at_call 70;refine(HPX.out _ B2.out).mono ?_;rintro e w8 hd8;have D8:=ι hd8;obtain⟨rfl,_⟩:=hd8))
  go_ret
  exact D8.out
 ·rw[if_pos he]
  have heb:(er != 0)=true:=by simpa using he
  clear HPT
  go_enter Tryz.func26,Tryz.ntmps26
  go_wp2_with (first|(go_at_call 36;refine HF.out.mono ?_;rintro e w1 ⟨rfl,hb⟩;have B1:=ι hb;clear hb)|(refine a0m rfl (.tmp 8) (.tmp 15) rfl rfl w1.heap.size x ino0 rfl rfl H4.out rfl (a1s w1) ?_;intro w2 hA hB _;have B2:=ι (a0b B1.out ((a0a (Below.refl _ w1) _).trans hB));clear hA hB))
  go_ret
  exact a0h HR.out B2.out
end fs
namespace fs
set_option maxRecDepth 100000
open Go.ChangeShapes Go.WideShapes Go.ChangeAt Go.RowKit
open rows
open sec
open dsk (size_alloc a0g St Wr.ok Wr.c w0 a0n)
open ly
open pa
open lk
open al
def moveV(st:St)(L:List (List Int))(a b:Plc):Int×St :=
 if b.is=true then
  if (inoAt L a.tg).kind=2∨(inoAt L b.tg).kind=2 then (5,st)
  else moveR st (wEnt b.k ⟨true,b.dir,b.name,a.tg⟩ b.dir) (wEnt a.k ent0 a.dir)
 else if a.dir=b.dir then doR st [wEnt a.k ⟨true,b.dir,b.name,a.tg⟩ b.dir]
 else match frE L with
  | none=>(2,st)
  | some k=>moveR st (wEnt (k:Int) ⟨true,b.dir,b.name,a.tg⟩ b.dir) (wEnt a.k ent0 a.dir)
structure Plc.fine (x:Plc):Prop where
 d0:0≤x.dir
 d1:x.dir≤255
 k0:0≤x.k
 k1:x.k<24
 t0:0≤x.tg
 t1:x.tg≤255
 nm:x.name.size≤maxLen
set_option maxRecDepth 100000 in
set_option maxHeartbeats 6400000 in
theorem fmove(G:Nat→Prop)(g:Nat)(d:Value)(st:St)(w:World)(hGl:∀b,G b→b<w.heap.size)(h:FsAt w G g d st)(k:Nat)(hg:st.good k)(hk:k+20≤900)(a b:Plc)(ha:a.fine)(hb:b.fine) :
  Calls Tryz.prog 131 #[.pointer (some ⟨g,0,none⟩),aggP a,aggP b] w (PDone G g d w (moveV st (nowL st) a b)):=by
 have HR:=ι h
 have HK:=h.known hg (by omega)
 have HKx:=ι HK
 have HGl:=ι hGl
 have HP1:=ι fun x b (hx:x.ok) w1 (hb:Below w.heap.size w w1)=>b6e hGl h hg hk x b hx w1 hb
 have HP2:=ι fun x y b c (hx:x.ok) (hy:y.ok) w1 (hb:Below w.heap.size w w1)=>c2r hGl h hg hk x y b c hx hy w1 hb
 have HSl:=ι fun w' (hb:Below w.heap.size w w')=>b7h w' d (nowL st) (HK.later hb).dk
 have HEN:=ι fun w'=>fentry b a.tg w'
 have HC:=ι fun w'=>fclearStep a.k (by have:=ha.k0;have:=ha.k1;omega) a.dir w'
 have okC:=b4z (k:=a.k) (f:=a.dir) (x:=ent0) (by have:=ha.k0;have:=ha.k1;omega) ⟨ha.d0,ha.d1⟩
 have HLT:=ι fun w'=>flater (wEnt a.k ent0 a.dir) okC.1 false w'
 have okT:(⟨true,b.dir,b.name,a.tg⟩:Ent).ok:=⟨a0f (by have:=hb.d0;have:=hb.d1;show 0≤b.dir∧b.dir<256;omega),a0f (by have:=ha.t0;have:=ha.t1;show 0≤a.tg∧a.tg<256;omega),hb.nm⟩
 have HE:=ι fun(n:Int) (hn:0≤n∧n≤200) w'=>fentryStep n hn ⟨true,b.dir,b.name,a.tg⟩ okT w'
 have okE:=fun(n:Int) (hn:0≤n∧n≤200)=>b4z (k:=n) (f:=b.dir) (x:=⟨true,b.dir,b.name,a.tg⟩) hn ⟨hb.d0,hb.d1⟩
 have HFA:=ι fun w' (hb':Below w.heap.size w w')=>fisfolder w' g d (nowL st) a.tg (HK.later hb') (a0f (by have:=ha.t0;have:=ha.t1;omega))
 have HFB:=ι fun w' (hb':Below w.heap.size w w')=>fisfolder w' g d (nowL st) b.tg (HK.later hb') (a0f (by have:=hb.t0;have:=hb.t1;omega))
 have hfe:∀n,frE (nowL st)=some n→n<24:=fun n hn=>(a2o hn).1
 obtain⟨V,hV⟩:∃V,moveV st (nowL st) a b=V:=⟨_,rfl⟩
 rw[hV]
 unfold moveV at hV
 generalize hcl:wEnt a.k ent0 a.dir=cl at *
 clear hcl
 have HCL:=ι okC
 generalize hxx:(⟨true,b.dir,b.name,a.tg⟩:Ent)=x at *
 have hxp:x.parent=b.dir:=by rw[← hxx]
 clear hxx
 rw[hxp] at HE
 generalize (inoAt (nowL st) a.tg).kind=ka at *
 generalize (inoAt (nowL st) b.tg).kind=kb at *
 generalize frE (nowL st)=fe at *
 generalize nowL st=L at *
 have hak:=And.intro ha.k0 ha.k1
 have hbk:=And.intro hb.k0 hb.k1
 have hW:∃W,(w.alloc (.cells a.c 180)).alloc (.cells b.c 180)=W:=⟨_,rfl⟩
 obtain⟨W,hW⟩:=hW
 have B0:Hid (Below w.heap.size w W):=ι (by rw[← hW];exact a0a (a0a (Below.refl _ _) _) _)
 have PA0:Hid (AtP W w.heap.size a):=ι (by rw[← hW];exact(b9w w a).later (a0a (Below.refl _ _) _))
 have PB0:Hid (AtP W (w.heap.size+1) b):=ι (by rw[← hW];have:=b9w (w.alloc (.cells a.c 180)) b;rw[World.size_alloc] at this;exact this)
 have ca4:=PA0.out.cell4
 clear h hg hk hGl HK ha hb okC okT hxp
 cases hbi:b.is with
 | true =>
  rw[hbi,if_pos rfl] at hV
  by_cases hka:ka=2
  ·rw[if_pos (Or.inl hka)] at hV
   subst hV
   have HA2:Hid (∀w',Below w.heap.size w w'→Calls Tryz.prog 129 #[.pointer (some ⟨g,0,none⟩),.int .i64 a.tg] w' fun e w''=>e = .returned (.bool true)∧Below w'.heap.size w' w''):=ι fun w' hb=>by
      have h:=HFA.out w' hb
      rw[decide_eq_true hka] at h
      exact h
   clear HFA HFB HP1 HP2 okE
   go_enter Tryz.func131,Tryz.ntmps131
   go_upto_region 1 with fail
   try rw[hW]
   clear hW
   go_wp2_with (first
   | (go_at_call 123;refine(HEN.out _).mono ?_;rintro e w1 ⟨rfl,hb⟩;have B1:=ι (a0b B0.out hb);have PA1:=ι (PA0.out.later hb);have PB1:=ι (PB0.out.later hb);clear hb)
   | (refine a1o rfl (.tmp 5) rfl (w.heap.size+1) rfl b PB0.out ?_)
   | (refine a1l rfl (.tmp 7) (.tmp 14) rfl rfl w1.heap.size x ent0 rfl rfl (a5g w1) ?_;intro w2 hA hB _;have hb:=(a0a (Below.refl _ w1) _).trans hB;have B2:=ι (a0b B1.out hb);have PA2:=ι (PA1.out.later hb);have PB2:=ι (PB1.out.later hb);have E2:=ι hA;have ca3:=PA2.out.cell3;have ca0:=PA2.out.cell0;clear hA hB hb)
   | (go_at_call 133;refine(HC.out _).mono ?_;rintro e w3 ⟨rfl,hb⟩;have B3:=ι (a0b B2.out hb);have PA3:=ι (PA2.out.later hb);have PB3:=ι (PB2.out.later hb);have E3:=ι (E2.out.later hb);clear hb)
   | (go_at_call 173;refine(HLT.out _).mono ?_;rintro e w4 ⟨rfl,hb⟩;have B4:=ι (a0b B3.out hb);have PA4:=ι (PA3.out.later hb);have PB4:=ι (PB3.out.later hb);have E4:=ι (E3.out.later hb);clear hb)
   | (refine a2e rfl (.tmp 8) (.tmp 20) rfl rfl w4.heap.size cl w0 true false rfl rfl HCL.out.1 a0i (a1z w4) ?_;intro w5 hA hB;have hb:=(a0a (Below.refl _ w4) _).trans hB;have B5:=ι (a0b B4.out hb);have PA5:=ι (PA4.out.later hb);have PB5:=ι (PB4.out.later hb);have E5:=ι (E4.out.later hb);have S5:=ι hA;have cb2:=PB5.out.cell2;rw[hbi] at cb2;have cc4:=PA5.out.cell4;have cd4:=PB5.out.cell4;have cc3:=PA5.out.cell3;have cc0:=PA5.out.cell0;have cd0:=PB5.out.cell0;have dd:=(HKx.out.later B5.out).row.disk;clear hA hB hb)
   | (go_at_call 129;with_reducible refine(HA2.out _ B5.out).mono ?_;rintro e w6 ⟨rfl,hb⟩;have B6:=ι (a0b B5.out hb);have PA6:=ι (PA5.out.later hb);have PB6:=ι (PB5.out.later hb);have E6:=ι (E5.out.later hb);have S6:=ι (S5.out.later hb);have ce4:=PB6.out.cell4;clear hb))
   go_ret
   exact a0h HR.out B6.out
  ·by_cases hkb:kb=2
   ·rw[if_pos (Or.inr hkb)] at hV
    subst hV
    have HA2:Hid (∀w',Below w.heap.size w w'→Calls Tryz.prog 129 #[.pointer (some ⟨g,0,none⟩),.int .i64 a.tg] w' fun e w''=>e = .returned (.bool false)∧Below w'.heap.size w' w''):=ι fun w' hb=>by
       have h:=HFA.out w' hb
       rw[decide_eq_false hka] at h
       exact h
    have HB2:Hid (∀w',Below w.heap.size w w'→Calls Tryz.prog 129 #[.pointer (some ⟨g,0,none⟩),.int .i64 b.tg] w' fun e w''=>e = .returned (.bool true)∧Below w'.heap.size w' w''):=ι fun w' hb=>by
       have h:=HFB.out w' hb
       rw[decide_eq_true hkb] at h
       exact h
    clear HFA HFB HP1 HP2 okE
    go_enter Tryz.func131,Tryz.ntmps131
    go_upto_region 1 with fail
    try rw[hW]
    clear hW
    go_wp2_with (first
    | (go_at_call 123;refine(HEN.out _).mono ?_;rintro e w1 ⟨rfl,hb⟩;have B1:=ι (a0b B0.out hb);have PA1:=ι (PA0.out.later hb);have PB1:=ι (PB0.out.later hb);clear hb)
    | (refine a1o rfl (.tmp 5) rfl (w.heap.size+1) rfl b PB0.out ?_)
    | (refine a1l rfl (.tmp 7) (.tmp 14) rfl rfl w1.heap.size x ent0 rfl rfl (a5g w1) ?_;intro w2 hA hB _;have hb:=(a0a (Below.refl _ w1) _).trans hB;have B2:=ι (a0b B1.out hb);have PA2:=ι (PA1.out.later hb);have PB2:=ι (PB1.out.later hb);have E2:=ι hA;have ca3:=PA2.out.cell3;have ca0:=PA2.out.cell0;clear hA hB hb)
    | (go_at_call 133;refine(HC.out _).mono ?_;rintro e w3 ⟨rfl,hb⟩;have B3:=ι (a0b B2.out hb);have PA3:=ι (PA2.out.later hb);have PB3:=ι (PB2.out.later hb);have E3:=ι (E2.out.later hb);clear hb)
    | (go_at_call 173;refine(HLT.out _).mono ?_;rintro e w4 ⟨rfl,hb⟩;have B4:=ι (a0b B3.out hb);have PA4:=ι (PA3.out.later hb);have PB4:=ι (PB3.out.later hb);have E4:=ι (E3.out.later hb);clear hb)
    | (refine a2e rfl (.tmp 8) (.tmp 20) rfl rfl w4.heap.size cl w0 true false rfl rfl HCL.out.1 a0i (a1z w4) ?_;intro w5 hA hB;have hb:=(a0a (Below.refl _ w4) _).trans hB;have B5:=ι (a0b B4.out hb);have PA5:=ι (PA4.out.later hb);have PB5:=ι (PB4.out.later hb);have E5:=ι (E4.out.later hb);have S5:=ι hA;have cb2:=PB5.out.cell2;rw[hbi] at cb2;have cc4:=PA5.out.cell4;have cd4:=PB5.out.cell4;have cc3:=PA5.out.cell3;have cc0:=PA5.out.cell0;have cd0:=PB5.out.cell0;have dd:=(HKx.out.later B5.out).row.disk;clear hA hB hb)
    | (go_at_call 129;with_reducible refine(HA2.out _ B5.out).mono ?_;rintro e w6 ⟨rfl,hb⟩;have B6:=ι (a0b B5.out hb);have PA6:=ι (PA5.out.later hb);have PB6:=ι (PB5.out.later hb);have E6:=ι (E5.out.later hb);have S6:=ι (S5.out.later hb);have ce4:=PB6.out.cell4;clear hb)
    | (go_at_call 129;with_reducible refine(HB2.out _ B6.out).mono ?_;rintro e w7 ⟨rfl,hb⟩;have B7:=ι (a0b B6.out hb);have PA7:=ι (PA6.out.later hb);have PB7:=ι (PB6.out.later hb);have E7:=ι (E6.out.later hb);have S7:=ι (S6.out.later hb);clear hb))
    go_ret
    exact a0h HR.out B7.out
   ·rw[if_neg (fun hh=>hh.elim hka hkb)] at hV
    have HA2:Hid (∀w',Below w.heap.size w w'→Calls Tryz.prog 129 #[.pointer (some ⟨g,0,none⟩),.int .i64 a.tg] w' fun e w''=>e = .returned (.bool false)∧Below w'.heap.size w' w''):=ι fun w' hb=>by
       have h:=HFA.out w' hb
       rw[decide_eq_false hka] at h
       exact h
    have HB2:Hid (∀w',Below w.heap.size w w'→Calls Tryz.prog 129 #[.pointer (some ⟨g,0,none⟩),.int .i64 b.tg] w' fun e w''=>e = .returned (.bool false)∧Below w'.heap.size w' w''):=ι fun w' hb=>by
       have h:=HFB.out w' hb
       rw[decide_eq_false hkb] at h
       exact h
    have HE1:=ι fun w'=>HE.out b.k (by omega) w'
    have okY:=okE b.k (by omega)
    have HPF:=ι fun w1 hb=>HP2.out _ _ false true okY HCL.out w1 hb
    rw[run_move,hV] at HPF
    generalize wEnt b.k x b.dir=y at *
    have OY:=ι okY
    clear HFA HFB HP1 HP2 okE okY hV
    go_enter Tryz.func131,Tryz.ntmps131
    go_upto_region 1 with fail
    try rw[hW]
    clear hW
    go_upto_region 6 with(first
    | (go_at_call 123;refine(HEN.out _).mono ?_;rintro e w1 ⟨rfl,hb⟩;have B1:=ι (a0b B0.out hb);have PA1:=ι (PA0.out.later hb);have PB1:=ι (PB0.out.later hb);clear hb)
    | (refine a1o rfl (.tmp 5) rfl (w.heap.size+1) rfl b PB0.out ?_)
    | (refine a1l rfl (.tmp 7) (.tmp 14) rfl rfl w1.heap.size x ent0 rfl rfl (a5g w1) ?_;intro w2 hA hB _;have hb:=(a0a (Below.refl _ w1) _).trans hB;have B2:=ι (a0b B1.out hb);have PA2:=ι (PA1.out.later hb);have PB2:=ι (PB1.out.later hb);have E2:=ι hA;have ca3:=PA2.out.cell3;have ca0:=PA2.out.cell0;clear hA hB hb)
    | (go_at_call 133;refine(HC.out _).mono ?_;rintro e w3 ⟨rfl,hb⟩;have B3:=ι (a0b B2.out hb);have PA3:=ι (PA2.out.later hb);have PB3:=ι (PB2.out.later hb);have E3:=ι (E2.out.later hb);clear hb)
    | (go_at_call 173;refine(HLT.out _).mono ?_;rintro e w4 ⟨rfl,hb⟩;have B4:=ι (a0b B3.out hb);have PA4:=ι (PA3.out.later hb);have PB4:=ι (PB3.out.later hb);have E4:=ι (E3.out.later hb);clear hb)
    | (refine a2e rfl (.tmp 8) (.tmp 20) rfl rfl w4.heap.size cl w0 true false rfl rfl HCL.out.1 a0i (a1z w4) ?_;intro w5 hA hB;have hb:=(a0a (Below.refl _ w4) _).trans hB;have B5:=ι (a0b B4.out hb);have PA5:=ι (PA4.out.later hb);have PB5:=ι (PB4.out.later hb);have E5:=ι (E4.out.later hb);have S5:=ι hA;have cb2:=PB5.out.cell2;rw[hbi] at cb2;have cc4:=PA5.out.cell4;have cd4:=PB5.out.cell4;have cc3:=PA5.out.cell3;have cc0:=PA5.out.cell0;have cd0:=PB5.out.cell0;have dd:=(HKx.out.later B5.out).row.disk;clear hA hB hb)
    | (go_at_call 129;with_reducible refine(HA2.out _ B5.out).mono ?_;rintro e w6 ⟨rfl,hb⟩;have B6:=ι (a0b B5.out hb);have PA6:=ι (PA5.out.later hb);have PB6:=ι (PB5.out.later hb);have E6:=ι (E5.out.later hb);have S6:=ι (S5.out.later hb);have ce4:=PB6.out.cell4;clear hb)
    | (go_at_call 129;with_reducible refine(HB2.out _ B6.out).mono ?_;rintro e w7 ⟨rfl,hb⟩;have B7:=ι (a0b B6.out hb);have PA7:=ι (PA6.out.later hb);have PB7:=ι (PB6.out.later hb);have E7:=ι (E6.out.later hb);have S7:=ι (S6.out.later hb);clear hb))
    clear ca4 ca3 ca0 cb2 cc4 cd4 cc3 cc0 cd0 ce4 dd
    have hNB:∀q,w.heap.size≤q→¬G q:=fun q hq hh=>by have:=HGl.out _ hh;omega
    have HBd:Hid (∀v,Below w7.drew.heap.size w7.drew v→Below w.heap.size w v):=ι fun v hv=>a0b B7.out (((Below.refl w7.heap.size w7).drew).trans hv)
    have HPB:=ι fun v (hv:dsk.Touch G w7.drew v)=>(AtP.touch (w:=w7.drew) PB7.out hv (hNB _ (by omega)))
    have HTE:=ι fun v (hv:dsk.Touch G w7.drew v)=>(show AtE v w1.heap.size x from(hv.block _ (Array.getElem?_eq_some_iff.1 E7.out).1 (hNB _ B1.out.size)).trans E7.out)
    have HTS:=ι fun v (hv:dsk.Touch G w7.drew v)=>(show AtSt v w4.heap.size cl true from(hv.block _ S7.out.lt (hNB _ B4.out.size)).trans S7.out)
    have h0:=dsk.Touch.refl G w7.drew
    have b0:Below w7.drew.heap.size w7.drew w7.drew:=Below.refl _ _
    refine wp_region_held_drew (S:=dsk.Touch G w7.drew) (by kernel_rfl) h0 (fun hH0 => ?_)
    refine tk 0 rfl ?_
    refine tk 1 rfl ?_
    refine tkv 2 rfl (a0n (by rfl) 3 _ Tryz.underlying3 rfl _ rfl (w.heap.size+1) 3 rfl (.int .i64 b.k) (fun w' hw=>(HPB.out w' hw).cell3)) ?_
    refine tkv 3 rfl (d5h (by rfl) (.tmp 7) rfl w1.heap.size rfl x (fun w' hw=>HTE.out w' hw)) ?_
    refine tkv 5 rfl (ld_st (by rfl) _ rfl w4.heap.size 0 rfl cl true HCL.out.1 (fun w' hw=>(HTS.out w' hw).range)) ?_
    refine rd 4 rfl (fun K hK => ?_)
    go_simp
    refine(HE1.out _).mono ?_
    rintro e v1 ⟨rfl,hv1⟩
    have b1:=b0.trans (hv1.mono b0.size)
    have h1:=dsk.Touch.of_below (S:=G) b1
    dsimp only
    refine hK.out _ _ ?_ (fun hHeld => ?_)
    ·exact h1
    clear hK K
    try simp only[Act.put,List.setIfInBounds_toArray,List.set_cons_zero,List.set_cons_succ]
    refine rd 6 rfl (fun K hK => ?_)
    refine a7f (by rfl) (.tmp 37) (.tmp 38) rfl y cl false true OY.out.1 HCL.out.1 rfl rfl ?_
    have h2:dsk.Touch G w7.drew (v1.alloc (.cells (stC y false++stC cl true).toArray 187)):=(h1).alloc _
    refine hK.out _ _ ?_ (fun hHeld => ?_)
    ·exact h2
    clear hK K
    try simp only[Act.put,List.setIfInBounds_toArray,List.set_cons_zero,List.set_cons_succ]
    refine rd 7 rfl (fun K hK => ?_)
    go_simp
    refine(HPF.out v1 (HBd.out _ b1)).mono ?_
    rintro e v3 ⟨hd3,ht3⟩
    have DD:=ι hd3
    have h3:=(h2).trans ht3
    obtain⟨rfl,_⟩:=hd3
    dsimp only
    refine hK.out _ _ ?_ (fun hHeld => ?_)
    ·exact h3
    clear hK K
    try simp only[Act.put,List.setIfInBounds_toArray,List.set_cons_zero,List.set_cons_succ]
    refine tk 8 rfl ?_
    refine wpAnyH_done (by kernel_rfl) ?_ _
    go_wp2_with fail
    go_ret
    exact DD.out
 | false =>
  rw[hbi,if_neg (by decide)] at hV
  clear HFA HFB
  by_cases hdd:a.dir=b.dir
  ·rw[if_pos hdd] at hV
   have hdb:(a.dir == b.dir)=true:=by rw[hdd];simp
   have HE1:=ι fun w'=>HE.out a.k (by omega) w'
   have okY:=okE a.k (by omega)
   have HPF:=ι fun w1 hb=>HP1.out _ false okY w1 hb
   rw[c0b,hV] at HPF
   generalize wEnt a.k x b.dir=y at *
   have OY:=ι okY
   clear HP1 HP2 okE okY hV hdd
   go_enter Tryz.func131,Tryz.ntmps131
   go_upto_region 1 with fail
   try rw[hW]
   clear hW
   go_wp2_with (first
   | (go_at_call 123;refine(HEN.out _).mono ?_;rintro e w1 ⟨rfl,hb⟩;have B1:=ι (a0b B0.out hb);have PA1:=ι (PA0.out.later hb);have PB1:=ι (PB0.out.later hb);clear hb)
   | (refine a1o rfl (.tmp 5) rfl (w.heap.size+1) rfl b PB0.out ?_)
   | (refine a1l rfl (.tmp 7) (.tmp 14) rfl rfl w1.heap.size x ent0 rfl rfl (a5g w1) ?_;intro w2 hA hB _;have hb:=(a0a (Below.refl _ w1) _).trans hB;have B2:=ι (a0b B1.out hb);have PA2:=ι (PA1.out.later hb);have PB2:=ι (PB1.out.later hb);have E2:=ι hA;have ca3:=PA2.out.cell3;have ca0:=PA2.out.cell0;clear hA hB hb)
   | (go_at_call 133;refine(HC.out _).mono ?_;rintro e w3 ⟨rfl,hb⟩;have B3:=ι (a0b B2.out hb);have PA3:=ι (PA2.out.later hb);have PB3:=ι (PB2.out.later hb);have E3:=ι (E2.out.later hb);clear hb)
   | (go_at_call 173;refine(HLT.out _).mono ?_;rintro e w4 ⟨rfl,hb⟩;have B4:=ι (a0b B3.out hb);have PA4:=ι (PA3.out.later hb);have PB4:=ι (PB3.out.later hb);have E4:=ι (E3.out.later hb);clear hb)
   | (refine a2e rfl (.tmp 8) (.tmp 20) rfl rfl w4.heap.size cl w0 true false rfl rfl HCL.out.1 a0i (a1z w4) ?_;intro w5 hA hB;have hb:=(a0a (Below.refl _ w4) _).trans hB;have B5:=ι (a0b B4.out hb);have PA5:=ι (PA4.out.later hb);have PB5:=ι (PB4.out.later hb);have E5:=ι (E4.out.later hb);have S5:=ι hA;have cb2:=PB5.out.cell2;rw[hbi] at cb2;have cc4:=PA5.out.cell4;have cd4:=PB5.out.cell4;have cc3:=PA5.out.cell3;have cc0:=PA5.out.cell0;have cd0:=PB5.out.cell0;have dd:=(HKx.out.later B5.out).row.disk;clear hA hB hb)
   | (refine a3n rfl (.tmp 7) rfl w1.heap.size rfl x E5.out ?_)
   | (go_at_call 122;refine(HE1.out _).mono ?_;rintro e w6 ⟨rfl,hb⟩;have B6:=ι (a0b B5.out hb);clear hb)
   | (refine a0g elem_sts (by decide) rfl (.tmp 50) rfl (stC y false) rfl (a1c OY.out.1) ?_)
   | (go_at_call 120;refine(HPF.out w6 B6.out).mono ?_;rintro e w8 ⟨hd8,_⟩;have D8:=ι hd8;obtain⟨rfl,_⟩:=hd8))
   go_ret
   exact D8.out
  ·rw[if_neg hdd] at hV
   have hdb:(a.dir == b.dir)=false:=beq_eq_false_iff_ne.2 hdd
   cases fe with
   | none =>
    have hV2:V=(2,st):=by rw[← hV]
    subst hV2
    rw[a5r] at HSl
    clear hV HP1 HP2 okE hdd
    go_enter Tryz.func131,Tryz.ntmps131
    go_upto_region 1 with fail
    try rw[hW]
    clear hW
    go_wp2_with (first
    | (go_at_call 123;refine(HEN.out _).mono ?_;rintro e w1 ⟨rfl,hb⟩;have B1:=ι (a0b B0.out hb);have PA1:=ι (PA0.out.later hb);have PB1:=ι (PB0.out.later hb);clear hb)
    | (refine a1o rfl (.tmp 5) rfl (w.heap.size+1) rfl b PB0.out ?_)
    | (refine a1l rfl (.tmp 7) (.tmp 14) rfl rfl w1.heap.size x ent0 rfl rfl (a5g w1) ?_;intro w2 hA hB _;have hb:=(a0a (Below.refl _ w1) _).trans hB;have B2:=ι (a0b B1.out hb);have PA2:=ι (PA1.out.later hb);have PB2:=ι (PB1.out.later hb);have E2:=ι hA;have ca3:=PA2.out.cell3;have ca0:=PA2.out.cell0;clear hA hB hb)
    | (go_at_call 133;refine(HC.out _).mono ?_;rintro e w3 ⟨rfl,hb⟩;have B3:=ι (a0b B2.out hb);have PA3:=ι (PA2.out.later hb);have PB3:=ι (PB2.out.later hb);have E3:=ι (E2.out.later hb);clear hb)
    | (go_at_call 173;refine(HLT.out _).mono ?_;rintro e w4 ⟨rfl,hb⟩;have B4:=ι (a0b B3.out hb);have PA4:=ι (PA3.out.later hb);have PB4:=ι (PB3.out.later hb);have E4:=ι (E3.out.later hb);clear hb)
    | (refine a2e rfl (.tmp 8) (.tmp 20) rfl rfl w4.heap.size cl w0 true false rfl rfl HCL.out.1 a0i (a1z w4) ?_;intro w5 hA hB;have hb:=(a0a (Below.refl _ w4) _).trans hB;have B5:=ι (a0b B4.out hb);have PA5:=ι (PA4.out.later hb);have PB5:=ι (PB4.out.later hb);have E5:=ι (E4.out.later hb);have S5:=ι hA;have cb2:=PB5.out.cell2;rw[hbi] at cb2;have cc4:=PA5.out.cell4;have cd4:=PB5.out.cell4;have cc3:=PA5.out.cell3;have cc0:=PA5.out.cell0;have cd0:=PB5.out.cell0;have dd:=(HKx.out.later B5.out).row.disk;clear hA hB hb)
    | (go_at_call 119;refine(HSl.out _ B5.out).mono ?_;rintro e w6 ⟨rfl,hb⟩;have B6:=ι (a0b B5.out hb);clear hb))
    go_ret
    exact a0h HR.out B6.out
   | some ke =>
    rw[a5u] at HSl
    have hk24:=hfe ke rfl
    have HE1:=ι fun w'=>HE.out (ke:Int) (by omega) w'
    have okY:=okE (ke:Int) (by omega)
    have HPF:=ι fun w1 hb=>HP2.out _ _ false true okY HCL.out w1 hb
    simp only at hV
    rw[run_move,hV] at HPF
    generalize wEnt (ke:Int) x b.dir=y at *
    have OY:=ι okY
    clear HP1 HP2 okE okY hV hdd hfe
    go_enter Tryz.func131,Tryz.ntmps131
    go_upto_region 1 with fail
    try rw[hW]
    clear hW
    go_upto_region 12 with(first
    | (go_at_call 123;refine(HEN.out _).mono ?_;rintro e w1 ⟨rfl,hb⟩;have B1:=ι (a0b B0.out hb);have PA1:=ι (PA0.out.later hb);have PB1:=ι (PB0.out.later hb);clear hb)
    | (refine a1o rfl (.tmp 5) rfl (w.heap.size+1) rfl b PB0.out ?_)
    | (refine a1l rfl (.tmp 7) (.tmp 14) rfl rfl w1.heap.size x ent0 rfl rfl (a5g w1) ?_;intro w2 hA hB _;have hb:=(a0a (Below.refl _ w1) _).trans hB;have B2:=ι (a0b B1.out hb);have PA2:=ι (PA1.out.later hb);have PB2:=ι (PB1.out.later hb);have E2:=ι hA;have ca3:=PA2.out.cell3;have ca0:=PA2.out.cell0;clear hA hB hb)
    | (go_at_call 133;refine(HC.out _).mono ?_;rintro e w3 ⟨rfl,hb⟩;have B3:=ι (a0b B2.out hb);have PA3:=ι (PA2.out.later hb);have PB3:=ι (PB2.out.later hb);have E3:=ι (E2.out.later hb);clear hb)
    | (go_at_call 173;refine(HLT.out _).mono ?_;rintro e w4 ⟨rfl,hb⟩;have B4:=ι (a0b B3.out hb);have PA4:=ι (PA3.out.later hb);have PB4:=ι (PB3.out.later hb);have E4:=ι (E3.out.later hb);clear hb)
    | (refine a2e rfl (.tmp 8) (.tmp 20) rfl rfl w4.heap.size cl w0 true false rfl rfl HCL.out.1 a0i (a1z w4) ?_;intro w5 hA hB;have hb:=(a0a (Below.refl _ w4) _).trans hB;have B5:=ι (a0b B4.out hb);have PA5:=ι (PA4.out.later hb);have PB5:=ι (PB4.out.later hb);have E5:=ι (E4.out.later hb);have S5:=ι hA;have cb2:=PB5.out.cell2;rw[hbi] at cb2;have cc4:=PA5.out.cell4;have cd4:=PB5.out.cell4;have cc3:=PA5.out.cell3;have cc0:=PA5.out.cell0;have cd0:=PB5.out.cell0;have dd:=(HKx.out.later B5.out).row.disk;clear hA hB hb)
    | (go_at_call 119;refine(HSl.out _ B5.out).mono ?_;rintro e w6 ⟨rfl,hb⟩;have B6:=ι (a0b B5.out hb);have PA6:=ι (PA5.out.later hb);have PB6:=ι (PB5.out.later hb);have E6:=ι (E5.out.later hb);have S6:=ι (S5.out.later hb);clear hb))
    clear ca4 ca3 ca0 cb2 cc4 cd4 cc3 cc0 cd0 dd
    have hNB:∀q,w.heap.size≤q→¬G q:=fun q hq hh=>by have:=HGl.out _ hh;omega
    have HBd:Hid (∀v,Below w6.drew.heap.size w6.drew v→Below w.heap.size w v):=ι fun v hv=>a0b B6.out (((Below.refl w6.heap.size w6).drew).trans hv)
    have HPB:=ι fun v (hv:dsk.Touch G w6.drew v)=>(AtP.touch (w:=w6.drew) PB6.out hv (hNB _ (by omega)))
    have HTE:=ι fun v (hv:dsk.Touch G w6.drew v)=>(show AtE v w1.heap.size x from(hv.block _ (Array.getElem?_eq_some_iff.1 E6.out).1 (hNB _ B1.out.size)).trans E6.out)
    have HTS:=ι fun v (hv:dsk.Touch G w6.drew v)=>(show AtSt v w4.heap.size cl true from(hv.block _ S6.out.lt (hNB _ B4.out.size)).trans S6.out)
    have h0:=dsk.Touch.refl G w6.drew
    have b0:Below w6.drew.heap.size w6.drew w6.drew:=Below.refl _ _
    refine wp_region_held_drew (S:=dsk.Touch G w6.drew) (by kernel_rfl) h0 (fun hH0 => ?_)
    refine tk 0 rfl ?_
    refine tk 1 rfl ?_
    refine tkv 2 rfl (d5h (by rfl) (.tmp 7) rfl w1.heap.size rfl x (fun w' hw=>HTE.out w' hw)) ?_
    refine tkv 4 rfl (ld_st (by rfl) _ rfl w4.heap.size 0 rfl cl true HCL.out.1 (fun w' hw=>(HTS.out w' hw).range)) ?_
    refine rd 3 rfl (fun K hK => ?_)
    go_simp
    refine(HE1.out _).mono ?_
    rintro e v1 ⟨rfl,hv1⟩
    have b1:=b0.trans (hv1.mono b0.size)
    have h1:=dsk.Touch.of_below (S:=G) b1
    dsimp only
    refine hK.out _ _ ?_ (fun hHeld => ?_)
    ·exact h1
    clear hK K
    try simp only[Act.put,List.setIfInBounds_toArray,List.set_cons_zero,List.set_cons_succ]
    refine rd 5 rfl (fun K hK => ?_)
    refine a7f (by rfl) (.tmp 66) (.tmp 67) rfl y cl false true OY.out.1 HCL.out.1 rfl rfl ?_
    have h2:dsk.Touch G w6.drew (v1.alloc (.cells (stC y false++stC cl true).toArray 187)):=(h1).alloc _
    refine hK.out _ _ ?_ (fun hHeld => ?_)
    ·exact h2
    clear hK K
    try simp only[Act.put,List.setIfInBounds_toArray,List.set_cons_zero,List.set_cons_succ]
    refine rd 6 rfl (fun K hK => ?_)
    go_simp
    refine(HPF.out v1 (HBd.out _ b1)).mono ?_
    rintro e v3 ⟨hd3,ht3⟩
    have DD:=ι hd3
    have h3:=(h2).trans ht3
    obtain⟨rfl,_⟩:=hd3
    dsimp only
    refine hK.out _ _ ?_ (fun hHeld => ?_)
    ·exact h3
    clear hK K
    try simp only[Act.put,List.setIfInBounds_toArray,List.set_cons_zero,List.set_cons_succ]
    refine tk 7 rfl ?_
    refine wpAnyH_done (by kernel_rfl) ?_ _
    go_wp2_with fail
    go_ret
    exact DD.out
end fs
namespace fs
set_option maxRecDepth 100000
open Go.ChangeShapes Go.WideShapes Go.ChangeAt Go.RowKit
open rows
open sec
open dsk (St Wr.ok)
open ly
open pa
open lk
open al
theorem b3x{l:List Int}(h:errP l=0):∃n ns,splitL l=some (n::ns):=by
 unfold errP at h
 split at h
 ·exact⟨_,_,‹_›⟩
 ·cases h
 ·cases h
theorem c9p{s t:ByteArray}(hs:errP (bys s)=0)(ht:errP (bys t)=0)(hne:s≠t):deeperB s t=decide ((nms (bys s)).length<(nms (bys t)).length):=by
 obtain⟨n,ns,es⟩:=b3x hs
 obtain⟨m,ms,et⟩:=b3x ht
 unfold deeperB
 have hn1:nms (bys s)=n::ns:=by rw[nms,es];rfl
 have hn2:nms (bys t)=m::ms:=by rw[nms,et];rfl
 have hu:underB (bys t) (bys s)=(decide ((n::ns).length≤(m::ms).length) && decide ((m::ms).take (n::ns).length=n::ns)):=by rw[underB,et,es]
 rw[hn1,hn2,hu]
 by_cases h:(n::ns).length<(m::ms).length
 ·rw[decide_eq_true h,Bool.or_true]
 ·rw[decide_eq_false h,Bool.or_false,Bool.and_eq_false_iff]
  by_cases h2:(n::ns).length≤(m::ms).length
  ·right
   refine decide_eq_false fun h3=>hne ?_
   rw[List.take_of_length_le (by omega)] at h3
   rw[h3,← es] at et
   have j1:=(a2i es).1
   have j2:=(a2i (et.trans es)).1
   exact b8y (j1.symm.trans j2)
  ·left
   exact decide_eq_false h2
theorem idx0(s t:ByteArray)(w:World):(Instr.index 195 (.agg #[.string s,.string t]) (.int .i64 0)).run Tryz.prog w = .ok (.string s) w:=by kernel_rfl
theorem idx1(s t:ByteArray)(w:World):(Instr.index 195 (.agg #[.string s,.string t]) (.int .i64 1)).run Tryz.prog w = .ok (.string t) w:=by kernel_rfl
theorem c1f{L:List (List Int)}(hs:Secs L)(s:ByteArray):(plcOf L (placeV L s).1).fine:=by
 have h1:=a8t hs s
 have h2:=b2y L s
 have h3:=a5j hs (placeV L s).1.k
 refine⟨h1.1,h1.2.1,h1.2.2.1,h1.2.2.2,?_,?_,by show (placeV L s).1.name.size≤maxLen;unfold maxLen;omega⟩
 ·show 0≤(if (placeV L s).1.is then (entAt L (placeV L s).1.k).target else 0)
  split<;>omega
 ·show (if (placeV L s).1.is then (entAt L (placeV L s).1.k).target else 0)≤255
  split<;>omega
theorem c0q(st:St)(L:List (List Int))(a b:Spot)(ha:a.is=true) :
  (if b.is=true then
   if decide ((inoAt L (entAt L a.k).target).kind=2)=true∨(inoAt L (entAt L b.k).target).kind=2 then ((5:Int),st)
   else moveR st (wEnt b.k ⟨true,b.dir,b.name,(entAt L a.k).target⟩ b.dir) (wEnt a.k ent0 a.dir)
  else if a.dir=b.dir then doR st [wEnt a.k ⟨true,b.dir,b.name,(entAt L a.k).target⟩ b.dir]
  else match frE L with
   | none=>(2,st)
   | some k=>moveR st (wEnt (k:Int) ⟨true,b.dir,b.name,(entAt L a.k).target⟩ b.dir) (wEnt a.k ent0 a.dir))=moveV st L (plcOf L a) (plcOf L b):=by
 unfold moveV plcOf
 simp only[ha,if_true,decide_eq_true_eq]
 by_cases hb:b.is=true
 ·simp only[hb,if_true]
 ·simp only[hb,Bool.false_eq_true,if_false]
  all_goals
   by_cases hd:a.dir=b.dir
   ·rw[if_pos hd,if_pos hd]
   ·rw[if_neg hd,if_neg hd]
    cases frE L<;>rfl
set_option maxRecDepth 100000 in
set_option maxHeartbeats 6400000 in
theorem frename(G:Nat→Prop)(g:Nat)(d:Value)(st:St)(w:World)(hGl:∀b,G b→b<w.heap.size)(h:FsAt w G g d st)(k:Nat)(hg:st.good k)(hk:k+20≤900)(hm:Mx w)(s t:ByteArray)(hsz:s.size≤100000)(htz:t.size≤100000) :
  Calls Tryz.prog 79 #[.pointer (some ⟨g,0,none⟩),.string s,.string t] w (PDone G g d w (renameV st s t)):=by
 have HR:=ι h
 have HK:=h.known hg (by omega)
 have hsec:=HK.dk.secs.1
 have HGL:=h.row.lt
 have HM:=ι (fmade g w h.row.self)
 have HPS:=ι fun w' (hb:Below w.heap.size w w')=>b2b s w' (hm.later hb) hsz
 have HPT:=ι fun w' (hb:Below w.heap.size w w')=>b2b t w' (hm.later hb) htz
 have HLS:=ι fun w' (hb:Below w.heap.size w w')=>flocate w' g d (nowL st) s (HK.later hb) (hm.later hb) hsz
 have HLT:=ι fun w' (hb:Below w.heap.size w w')=>flocate w' g d (nowL st) t (HK.later hb) (hm.later hb) htz
 have HDS:=ι fun w' (hb:Below w.heap.size w w')=>fdepth s w' (hm.later hb) hsz
 have HDT:=ι fun w' (hb:Below w.heap.size w w')=>fdepth t w' (hm.later hb) htz
 have fa:=c1f hsec s
 have fb:=c1f hsec t
 have HMV:=ι fun w1 (hb:Below w.heap.size w w1)=>(fmove G g d st w1 (fun b hG=>Nat.lt_of_lt_of_le (hGl b hG) hb.size) (h.later hb) k hg hk _ _ fa fb).mono fun e w' hd=>a1x h.row.lt h.apart hb hd
 have HFO:=ι fun w' (hb:Below w.heap.size w w')=>fisfolder w' g d (nowL st) (plcOf (nowL st) (placeV (nowL st) s).1).tg (HK.later hb) (a0f (by have:=fa.t0;have:=fa.t1;omega))
 have HDE:=ι fun h1 h2 h3=>c9p (s:=s) (t:=t) h1 h2 h3
 have HRM:=ι fun ha=>c0q st (nowL st) (placeV (nowL st) s).1 (placeV (nowL st) t).1 ha
 have HST:=ι (fun(e:s=t)=>congrArg (placeV (nowL st)) e)
 obtain⟨V,hV⟩:∃V,renameV st s t=V:=⟨_,rfl⟩
 rw[hV]
 unfold renameV at hV
 dsimp only at hV
 generalize errP (bys s)=es at *
 generalize errP (bys t)=et at *
 generalize (nms (bys s)).length=ns at *
 generalize (nms (bys t)).length=nt at *
 have HI0:=idx0 s t
 have HI1:=idx1 s t
 have hkd:(inoAt (nowL st) (plcOf (nowL st) (placeV (nowL st) s).1).tg).kind=(inoAt (nowL st) (plcOf (nowL st) (placeV (nowL st) s).1).tg).kind:=rfl
 have HTG:Hid ((placeV (nowL st) s).1.is=true→(plcOf (nowL st) (placeV (nowL st) s).1).tg=(entAt (nowL st) (placeV (nowL st) s).1.k).target):=ι fun hi=>by
  show (if (placeV (nowL st) s).1.is then (entAt (nowL st) (placeV (nowL st) s).1.k).target else 0)=_
  rw[if_pos hi]
 have HAf:Hid ((plcOf (nowL st) (placeV (nowL st) s).1).is=(placeV (nowL st) s).1.is∧(plcOf (nowL st) (placeV (nowL st) s).1).k=(placeV (nowL st) s).1.k):=ι ⟨rfl,rfl⟩
 have HBf:Hid ((plcOf (nowL st) (placeV (nowL st) t).1).is=(placeV (nowL st) t).1.is∧(plcOf (nowL st) (placeV (nowL st) t).1).k=(placeV (nowL st) t).1.k):=ι ⟨rfl,rfl⟩
 generalize plcOf (nowL st) (placeV (nowL st) s).1=pa at *
 generalize plcOf (nowL st) (placeV (nowL st) t).1=pb at *
 generalize placeV (nowL st) s=P at *
 generalize placeV (nowL st) t=Q at *
 obtain⟨sa,ea⟩:=P
 obtain⟨sb,eb⟩:=Q
 simp only at HLS HLT HRM HTG HAf HBf hV
 have HVV:=ι hV
 clear h hg hk hm hsz htz hsec fa fb hGl hkd hV HK
 go_enter Tryz.func79,Tryz.ntmps79
 go_wp2_with (go_at_call 47;refine HM.out.mono ?_;rintro e wm ⟨rfl,hwm⟩;obtain rfl:=hwm)
 go_loopw [8,9,10,11,21] (fun _ _ _ _ iv wr=>∃i:Nat,i≤2∧iv = .int .i64 (i:Int)∧Hid (0<i→es=0)∧Hid (1<i→et=0)∧Hid (Below w.heap.size w wr)) (fun _ _ _ _ iv _=>2-(intOf iv).toNat)
 case atStart=>exact⟨0,by omega,rfl,ι (fun h=>by omega),ι (fun h=>by omega),ι (Below.refl _ _)⟩
 case round =>
  obtain⟨i,hi,rfl,HES,HET,HB⟩:=hrel
  by_cases h0:i=0
  ·subst h0
   by_cases he:es=0
   ·subst he
    go_wp2_with (go_at_call 128;refine(HPS.out _ HB.out).mono ?_;rintro e w2 ⟨rfl,hb⟩;have B2:=ι (a0b HB.out hb);clear hb)
    go_roundw
    case rel=>exact⟨1,by omega,by go_num,ι (by simp),ι (fun h=>by omega),B2⟩
    case measure=>simp[intOf]
   ·have hne:(es != 0)=true:=by simpa using he
    have hV2:Hid (V=(es,st)):=ι (by rw[← HVV.out,if_pos he])
    go_wp2_with (go_at_call 128;refine(HPS.out _ HB.out).mono ?_;rintro e w2 ⟨rfl,hb⟩;have B2:=ι (a0b HB.out hb);clear hb)
    go_ret
    rw[hV2.out]
    exact a0h HR.out B2.out
  by_cases h1:i=1
  ·subst h1
   have hes:=HES.out (by omega)
   by_cases he:et=0
   ·subst he
    go_wp2_with (go_at_call 128;refine(HPT.out _ HB.out).mono ?_;rintro e w2 ⟨rfl,hb⟩;have B2:=ι (a0b HB.out hb);clear hb)
    go_roundw
    case rel=>exact⟨2,by omega,by go_num,ι (fun _=>hes),ι (by simp),B2⟩
    case measure=>simp[intOf]
   ·have hne:(et != 0)=true:=by simpa using he
    have hV2:Hid (V=(et,st)):=ι (by rw[← HVV.out,if_neg (fun h=>h hes),if_pos he])
    go_wp2_with (go_at_call 128;refine(HPT.out _ HB.out).mono ?_;rintro e w2 ⟨rfl,hb⟩;have B2:=ι (a0b HB.out hb);clear hb)
    go_ret
    rw[hV2.out]
    exact a0h HR.out B2.out
  obtain rfl:i=2:=by omega
  have hes:=HES.out (by omega)
  have het:=HET.out (by omega)
  have HDE2:=ι (HDE.out hes het)
  have HV3:=HVV.out
  rw[if_neg (fun h=>h hes),if_neg (fun h=>h het)] at HV3
  have HV3:=ι HV3
  clear HVV HDE HI0 HI1 HES HET hes het
  go_upto_region 11 with(first
   | (go_at_call 117;refine(HLS.out _ HB.out).mono ?_;rintro e w2 ⟨rfl,hb⟩;have B2:=ι (a0b HB.out hb);clear hb)
   | (refine a0x rfl (.tmp 12) (.tmp 38) rfl rfl w2.heap.size pa plc0 rfl rfl (a3a w2) ?_;intro w3 hA hB;have hb:=(a0a (Below.refl _ w2) _).trans hB;have B3:=ι (a0b B2.out hb);have A3:=ι hA;clear hA hB hb))
  by_cases hea:ea=0
  case neg =>
   have hne:(ea != 0)=true:=by simpa using hea
   have hV2:Hid (V=(ea,st)):=ι (by rw[← HV3.out,if_pos hea])
   go_wp2_with fail
   go_ret
   rw[hV2.out]
   exact a0h HR.out B3.out
  subst hea
  have HV4:=HV3.out
  rw[if_neg (by simp)] at HV4
  have HV4:=ι HV4
  clear HV3
  have hca:=A3.out.cell2
  cases hai:sa.is with
  | false =>
   rw[HAf.out.1,hai] at hca
   have hV2:Hid (V=(4,st)):=ι (by rw[← HV4.out,if_pos hai])
   go_wp2_with fail
   go_ret
   rw[hV2.out]
   exact a0h HR.out B3.out
  | true =>
  rw[HAf.out.1,hai] at hca
  have HV5:=HV4.out
  rw[if_neg (by rw[hai];decide)] at HV5
  have HV5:=ι HV5
  clear HV4
  go_upto_region 16 with(first
   | (go_at_call 117;refine(HLT.out _ B3.out).mono ?_;rintro e w4 ⟨rfl,hb⟩;have B4:=ι (a0b B3.out hb);have A4:=ι (A3.out.later hb);clear hb)
   | (refine a0x rfl (.tmp 14) (.tmp 50) rfl rfl w4.heap.size pb plc0 rfl rfl (a3a w4) ?_;intro w5 hA hB;have hb:=(a0a (Below.refl _ w4) _).trans hB;have B5:=ι (a0b B4.out hb);have A5:=ι (A4.out.later hb);have Q5:=ι hA;clear hA hB hb))
  clear hca
  by_cases heb:eb=0
  case neg =>
   have hne:(eb != 0)=true:=by simpa using heb
   have hV2:Hid (V=(eb,st)):=ι (by rw[← HV5.out,if_pos heb])
   go_wp2_with fail
   go_ret
   rw[hV2.out]
   exact a0h HR.out B5.out
  subst heb
  have HV6:=HV5.out
  rw[if_neg (by simp)] at HV6
  have HV6:=ι HV6
  clear HV5
  have ca3:=A5.out.cell3
  have cb3:=Q5.out.cell3
  have cb2:=Q5.out.cell2
  rw[HAf.out.2] at ca3
  rw[HBf.out.2] at cb3
  rw[HBf.out.1] at cb2
  by_cases hsame:sb.is=true∧sb.k=sa.k
  ·have hV2:Hid (V=(0,st)):=ι (by rw[← HV6.out,if_pos (Or.inr hsame)])
   obtain⟨hs1,hs2⟩:=hsame
   rw[hs1] at cb2
   have hkk:(sb.k == sa.k)=true:=by rw[hs2];simp
   clear hs2
   go_wp2_with fail
   go_ret
   rw[hV2.out]
   exact a0h HR.out B5.out
  have hnst:s≠t:=fun e=>hsame (by
   have:=HST.out e
   have h2:sa=sb:=congrArg Prod.fst this
   rw[← h2]
   exact⟨hai,rfl⟩)
  have HV7:=HV6.out
  rw[if_neg (fun hh=>hh.elim hnst hsame),HDE2.out hnst] at HV7
  have HV7:=ι HV7
  have HRX:=ι (HRM.out hai)
  have HTX:=ι (HTG.out hai)
  clear HV6 HDE2 HRM HTG HST
  obtain⟨kd,hkd⟩:∃kd,(inoAt (nowL st) (entAt (nowL st) sa.k).target).kind=kd:=⟨_,rfl⟩
  rw[HTX.out,hkd] at HFO
  have ca4:=A5.out.cell4
  rw[HTX.out] at ca4
  rw[hkd] at HV7
  have HMX:Hid (∀w1,Below w.heap.size w w1→Calls Tryz.prog 131 #[.pointer (some ⟨g,0,none⟩),aggP pa,aggP pb] w1 (PDone G g d w (moveV st (nowL st) pa pb))):=ι HMV.out
  have HRY:=HRX.out
  rw[hkd] at HRY
  have HRY:=ι HRY
  generalize (entAt (nowL st) sa.k).target=tg at *
  clear HTX HMV HRX hkd hnst
  have hb3:sb.is=false∨(sb.is=true∧(sb.k == sa.k)=false):=by
   cases hx:sb.is with
   | false=>exact Or.inl rfl
   | true=>exact Or.inr ⟨rfl,beq_eq_false_iff_ne.2 fun e=>hsame ⟨hx,e⟩⟩
  clear hsame
  by_cases hk2:kd=2
  ·have HF2:Hid (∀w',Below w.heap.size w w'→Calls Tryz.prog 129 #[.pointer (some ⟨g,0,none⟩),.int .i64 tg] w' fun e w''=>e = .returned (.bool true)∧Below w'.heap.size w' w''):=ι fun w' hb=>by
    have h:=HFO.out w' hb
    rw[decide_eq_true hk2] at h
    exact h
   clear HFO
   by_cases hdp:ns<nt
   ·have hV2:Hid (V=(1,st)):=ι (by rw[← HV7.out,if_pos ⟨decide_eq_true hk2,decide_eq_true hdp⟩])
    have hdpi:(ns:Int)<nt:=by omega
    clear HV7 HRY HMX
    rcases hb3 with hb3|⟨hb3,hb4⟩
    ·rw[hb3] at cb2
     clear hb3
     go_wp2_with (first
      | (go_at_call 129;refine(HF2.out _ B5.out).mono ?_;rintro e w6 ⟨rfl,hb⟩;have B6:=ι (a0b B5.out hb);clear hb)
      | (go_at_call 130;with_reducible refine(HDT.out _ B6.out).mono ?_;rintro e w7 ⟨rfl,hb⟩;have B7:=ι (a0b B6.out hb);clear hb)
      | (go_at_call 130;with_reducible refine(HDS.out _ B7.out).mono ?_;rintro e w8 ⟨rfl,hb⟩;have B8:=ι (a0b B7.out hb);clear hb))
     go_ret
     rw[hV2.out]
     exact a0h HR.out B8.out
    ·rw[hb3] at cb2
     clear hb3
     go_wp2_with (first
      | (go_at_call 129;refine(HF2.out _ B5.out).mono ?_;rintro e w6 ⟨rfl,hb⟩;have B6:=ι (a0b B5.out hb);clear hb)
      | (go_at_call 130;with_reducible refine(HDT.out _ B6.out).mono ?_;rintro e w7 ⟨rfl,hb⟩;have B7:=ι (a0b B6.out hb);clear hb)
      | (go_at_call 130;with_reducible refine(HDS.out _ B7.out).mono ?_;rintro e w8 ⟨rfl,hb⟩;have B8:=ι (a0b B7.out hb);clear hb))
     go_ret
     rw[hV2.out]
     exact a0h HR.out B8.out
   ·have hV2:Hid (moveV st (nowL st) pa pb=V):=ι (by
     have h8:=HV7.out
     rw[if_neg (fun hh=>hdp (of_decide_eq_true hh.2))] at h8
     exact HRY.out.symm.trans h8)
    rw[hV2.out] at HMX
    have hdpi:¬(ns:Int)<nt:=by omega
    clear HV7 HRY
    rcases hb3 with hb3|⟨hb3,hb4⟩
    ·rw[hb3] at cb2
     clear hb3
     go_wp2_with (first
      | (go_at_call 129;refine(HF2.out _ B5.out).mono ?_;rintro e w6 ⟨rfl,hb⟩;have B6:=ι (a0b B5.out hb);have A6:=ι (A5.out.later hb);have Q6:=ι (Q5.out.later hb);clear hb)
      | (go_at_call 130;with_reducible refine(HDT.out _ B6.out).mono ?_;rintro e w7 ⟨rfl,hb⟩;have B7:=ι (a0b B6.out hb);have A7:=ι (A6.out.later hb);have Q7:=ι (Q6.out.later hb);clear hb)
      | (go_at_call 130;with_reducible refine(HDS.out _ B7.out).mono ?_;rintro e w8 ⟨rfl,hb⟩;have B8:=ι (a0b B7.out hb);have A8:=ι (A7.out.later hb);have Q8:=ι (Q7.out.later hb);clear hb)
      | (refine a1o rfl (.tmp 12) rfl w2.heap.size rfl pa A8.out ?_)|(refine a1o rfl (.tmp 14) rfl w4.heap.size rfl pb Q8.out ?_)
      | (go_at_call 131;refine(HMX.out _ B8.out).mono ?_;rintro e w9 hd;have DD:=ι hd;obtain⟨rfl,_⟩:=hd))
     go_ret
     exact DD.out
    ·rw[hb3] at cb2
     clear hb3
     go_wp2_with (first
      | (go_at_call 129;refine(HF2.out _ B5.out).mono ?_;rintro e w6 ⟨rfl,hb⟩;have B6:=ι (a0b B5.out hb);have A6:=ι (A5.out.later hb);have Q6:=ι (Q5.out.later hb);clear hb)
      | (go_at_call 130;with_reducible refine(HDT.out _ B6.out).mono ?_;rintro e w7 ⟨rfl,hb⟩;have B7:=ι (a0b B6.out hb);have A7:=ι (A6.out.later hb);have Q7:=ι (Q6.out.later hb);clear hb)
      | (go_at_call 130;with_reducible refine(HDS.out _ B7.out).mono ?_;rintro e w8 ⟨rfl,hb⟩;have B8:=ι (a0b B7.out hb);have A8:=ι (A7.out.later hb);have Q8:=ι (Q7.out.later hb);clear hb)
      | (refine a1o rfl (.tmp 12) rfl w2.heap.size rfl pa A8.out ?_)|(refine a1o rfl (.tmp 14) rfl w4.heap.size rfl pb Q8.out ?_)
      | (go_at_call 131;refine(HMX.out _ B8.out).mono ?_;rintro e w9 hd;have DD:=ι hd;obtain⟨rfl,_⟩:=hd))
     go_ret
     exact DD.out
  ·have HF2:Hid (∀w',Below w.heap.size w w'→Calls Tryz.prog 129 #[.pointer (some ⟨g,0,none⟩),.int .i64 tg] w' fun e w''=>e = .returned (.bool false)∧Below w'.heap.size w' w''):=ι fun w' hb=>by
    have h:=HFO.out w' hb
    rw[decide_eq_false hk2] at h
    exact h
   have hV2:Hid (moveV st (nowL st) pa pb=V):=ι (by
    have h8:=HV7.out
    rw[if_neg (fun hh=>hk2 (of_decide_eq_true hh.1))] at h8
    exact HRY.out.symm.trans h8)
   rw[hV2.out] at HMX
   clear HFO HV7 HRY
   rcases hb3 with hb3|⟨hb3,hb4⟩
   ·rw[hb3] at cb2
    clear hb3
    go_wp2_with (first
     | (go_at_call 129;refine(HF2.out _ B5.out).mono ?_;rintro e w6 ⟨rfl,hb⟩;have B6:=ι (a0b B5.out hb);have A6:=ι (A5.out.later hb);have Q6:=ι (Q5.out.later hb);clear hb)
     | (refine a1o rfl (.tmp 12) rfl w2.heap.size rfl pa A6.out ?_)|(refine a1o rfl (.tmp 14) rfl w4.heap.size rfl pb Q6.out ?_)
     | (go_at_call 131;refine(HMX.out _ B6.out).mono ?_;rintro e w9 hd;have DD:=ι hd;obtain⟨rfl,_⟩:=hd))
    go_ret
    exact DD.out
   ·rw[hb3] at cb2
    clear hb3
    go_wp2_with (first
     | (go_at_call 129;refine(HF2.out _ B5.out).mono ?_;rintro e w6 ⟨rfl,hb⟩;have B6:=ι (a0b B5.out hb);have A6:=ι (A5.out.later hb);have Q6:=ι (Q5.out.later hb);clear hb)
     | (refine a1o rfl (.tmp 12) rfl w2.heap.size rfl pa A6.out ?_)|(refine a1o rfl (.tmp 14) rfl w4.heap.size rfl pb Q6.out ?_)
     | (go_at_call 131;refine(HMX.out _ B6.out).mono ?_;rintro e w9 hd;have DD:=ι hd;obtain⟨rfl,_⟩:=hd))
    go_ret
    exact DD.out
end fs
end Go.Proofs.YtpnahagiojelbaaGreatDoor
