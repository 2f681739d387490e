/- What CheckStays wants, part 41. -/
import Derived.Test.YtpnahagiojelbaaGreatDoorCheckStaysB
import Derived.Test.YtpnahagiojelbaaGreatDoorCheckStaysC
import Derived.Test.YtpnahagiojelbaaGreatDoorCheckStaysS
import Derived.Test.YtpnahagiojelbaaGreatDoorCheckStaysZH
import Derived.Test.YtpnahagiojelbaaGreatDoorCheckStaysZK
import Derived.Test.YtpnahagiojelbaaGreatDoorCheckStaysZN
set_option linter.unusedVariables false
set_option linter.unusedSimpArgs false
namespace Go.Proofs.YtpnahagiojelbaaGreatDoor
namespace fs
set_option maxRecDepth 100000
open Go.ChangeShapes Go.WideShapes Go.ChangeAt Go.RowKit
open rows
open sec
open dsk (grow St Wr.c st0)
open ly
open pa
open lk
open al
set_option maxRecDepth 100000 in
set_option maxHeartbeats 16000000 in
theorem b5x(w:World)(p:Option Addr)(n c:Nat)(ss:List (List Int))(hss:Secs ss)(hr:Rd w 32 (.slice p n c) n (cellsOf ss))(hnm:n≤maxLen)(q:Option Addr)(m cq:Nat)(l:List AX)(hlr:Rd w 6 (.slice q m cq) m ((l.map AX.c).flatten))(hmm:m≤maxLen)(hok:∀a∈l,a.ok w)(hmx:Mx w) :
  Calls Tryz.prog 4 #[.slice p n c,.slice q m cq] w (Rt w (.bool true)):=by
 have HLI:=ι (c4w q m cq 30 l w (by decide) (Below.refl _ _) hok hlr hmm)
 have HK:=ι fun w'=>knows13 w'
 have HFR:=ι fun w' (hb:Below w.heap.size w w') (h200:n≤200)=>qfresh w' p n c ss hss (hr.later hb) h200
 have HMX:=ι hmx
 have HOK:=ι hok
 have HR:=ι hlr
 have HSS:=ι hss
 have HLN:=ι (b3l hss hr)
 have hq:=fun p w'=>dsk.c8i b9a p w'
 have hn9:(n:Int)≤9223372036854775807:=by unfold maxLen at hnm;omega
 have hm9:(m:Int)≤9223372036854775807:=by unfold maxLen at hmm;omega
 clear hss hr hlr hok hmx
 by_cases hn2:n≤200
 ·have d1:decide ((200:Int)<n)=false:=by simp;omega
  go_enter Tryz.func4,Tryz.ntmps4
  go_wp2_with fail
  refine HLI.out.mono ?_
  rintro e w1 ⟨b,rfl,rfl,hb⟩
  clear HLI
  cases b with
  | false =>
   clear hb
   go_wp2_with (go_at_call 22;refine(HK.out _).mono ?_;rintro e w2 ⟨rfl,hb2⟩)
   go_ret
   exact⟨rfl,hb2⟩
  | true =>
   obtain⟨hn30,hli⟩:=hb rfl
   have HLL:=ι hli
   clear hb hli
   go_wp2_with (go_at_call 22;refine(HK.out _).mono ?_;rintro e w2 ⟨rfl,hb2⟩;have B2:=ι hb2;clear hb2)
   refine(HFR.out _ B2.out hn2).mono ?_
   rintro e w3 ⟨hb3,⟨rfl,hmb⟩|⟨ad,d,rfl,hf,hmb⟩⟩
   ·have B3:=ι (a0b B2.out hb3)
    clear hb3 HFR HLL HK
    go_wp2_with fail
    go_ret
    exact⟨rfl,B3.out⟩
   ·have B3:=ι (a0b B2.out hb3)
    have Q0:Hid (QAt w.heap.size d (.pointer (some ad)) w3 (fun b=>w2.heap.size≤b∧b<w3.heap.size) (st0 ss) (10 * 0)):=ι ⟨hf,c2q HSS.out (by have h1:=hmb;rw[mountsB,Bool.and_eq_true,decide_eq_true_eq] at h1;omega),fun b hb=>⟨Nat.le_trans B2.out.size hb.1,hb.2⟩⟩
    have HGF:=ι (d1a HSS.out hmb)
    have HN0:=ι (b6k ss)
    clear hb3 hf hmb HFR HK B2 HSS HLN hn9
    generalize (fun b=>w2.heap.size≤b∧b<w3.heap.size)=F0 at *
    generalize hsz:st0 ss=sz at *
    have HDI0:=ι (sfsHas.disk d w3 F0 _ sz 0 Q0.out.fi Q0.out.good (by omega))
    have HCL0:=ι fun w' (hb:Below w3.heap.size w3 w')=>a5n d (nowL sz) w' ((Q0.out.later hb).dk (by omega))
    rw[HN0.out] at HCL0
    cases hcb:cleanB ss with
    | false =>
     rw[hcb] at HCL0
     clear HGF HLL
     go_wp2_with (first
      | (go_at_call 16;refine HDI0.out.mono ?_;rintro e wd ⟨rfl,hw⟩;obtain rfl:=hw.symm)
      | (go_at_call 23;refine(HCL0.out _ (Below.refl _ _)).mono ?_;rintro e wd ⟨rfl,hw⟩;have B4:=ι (a0b B3.out hw);clear hw))
     go_ret
     exact⟨rfl,B4.out⟩
    | true =>
     rw[hcb] at HCL0
     have G0:=ι (HGF.out hcb)
     clear HGF hcb HN0
     clear hsz
     go_upto_region 6 with(first
      | (go_at_call 16;refine HDI0.out.mono ?_;rintro e wd ⟨rfl,hw⟩;obtain rfl:=hw.symm)
      | (go_at_call 23;refine(HCL0.out _ (Below.refl _ _)).mono ?_;rintro e w4 ⟨rfl,hw⟩;have B4:=ι (a0b B3.out hw);have Q4:=ι (Q0.out.later hw);clear hw))
     clear HDI0 HCL0 Q0 B3
     go_wp2_with fail
     go_loopw [6] (fun iv wr=>∃(i:Nat) (F:Nat→Prop) (st:St),i≤m∧iv = .int .i64 (i:Int)∧Hid (QAt w.heap.size d (.pointer (some ad)) wr F st (10 * i))∧Hid (Below w.heap.size w wr)∧Hid (lk.Good st)) (fun iv _=>m-(intOf iv).toNat)
     case atStart=>exact⟨0,F0,sz,by omega,rfl,Q4,B4,G0⟩
     case round =>
      clear Q4 B4 G0
      obtain⟨i,F,st,hi,rfl,HQ,HB,HG⟩:=hrel
      by_cases hin:i<m
      ·have hin1:(i:Int)<m:=by omega
       have hil:i<l.length:=by have:=dsk.Rd.count AX.c HR.out (fun _ _=>rfl) (by decide);omega
       obtain⟨b1,o1,rfl,hc1,hm1,hh1,hl1,HR1⟩:=dsk.Rd.chunk AX.c HR.out (fun _ _=>rfl) (by decide) hin
       have hmem:=List.getElem_mem hil
       have HWR:=ι (Rd.rangeLater (HR1 i hil) hh1 HB.out)
       have HDO:=ι (qdo_at HQ.out (by omega) (HMX.out.later HB.out) l[i] (HOK.out _ hmem) (HLL.out _ hmem) HB.out (Nat.le_refl _))
       have HGD:=ι (c9w HQ.out.good (HOK.out _ hmem) (HLL.out _ hmem))
       have HCI:=ι fun(h7:l[i].a.kind≠7)=>ci_qdo HG.out HQ.out.good l[i].a h7 (HOK.out _ hmem).bb
       generalize l[i]=x at *
       have hk0:wr.cell? ⟨b1,o1+i * 6,none⟩=some (.int .i64 x.a.kind):=by simpa using HWR.out 0 _ rfl
       clear HR1 hl1 hmem
       by_cases h7:x.a.kind=7
       ·have k7:(x.a.kind == 7)=true:=by simpa using h7
        have QN:Hid (QAt w.heap.size d (.pointer (some ad)) wr F st (10 * (i+1))):=ι ⟨HQ.out.fi,a0w HQ.out.good (by omega),HQ.out.inF⟩
        clear h7 HDO HGD HCI
        go_wp2_with fail
        exact⟨⟨i+1,F,st,by omega,by go_num,QN,HB,HG⟩,by simp[intOf];omega⟩
       ·have k7:(x.a.kind == 7)=false:=by simpa using h7
        have G1:=ι (HCI.out h7)
        clear h7 HCI HG
        go_upto_region 11 with(first|(refine c8q rfl (.tmp 45) rfl b1 (o1+i * 6) rfl x HWR.out ?_)|(go_at_call 9;refine HDO.out.mono ?_;rintro e w5 hd;have Q5:=ι (HQ.out.done HB.out.size hd HGD.out);have B5:=ι (HB.out.trans (HQ.out.below HB.out.size hd));obtain⟨rfl,_⟩:=hd))
        have hcl:=c4n G1.out
        have hmo:=c0u G1.out
        generalize (qDo st x.a).2=st5 at *
        generalize grow F wr w5=F5 at *
        have hkm:10 * (i+1)≤880:=by omega
        have HCL:=ι fun w' (h:QAt w.heap.size d (.pointer (some ad)) w' F5 st5 (10 * (i+1)))=>a5n d (nowL st5) w' (h.dk hkm)
        have HMT:=ι fun w' (h:QAt w.heap.size d (.pointer (some ad)) w' F5 st5 (10 * (i+1)))=>a7i w' d (nowL st5) (h.dk hkm)
        have HDI:=ι fun w' (h:QAt w.heap.size d (.pointer (some ad)) w' F5 st5 (10 * (i+1)))=>sfsHas.disk d w' F5 _ st5 _ h.fi h.good (by omega)
        rw[hcl] at HCL
        rw[hmo] at HMT
        clear hcl hmo HDO HGD HQ HB
        go_wp2_with (first
         | (go_at_call 16;refine(HDI.out _ (by first|exact Q6.out|exact Q5.out)).mono ?_;rintro e wd ⟨rfl,hw⟩;obtain rfl:=hw.symm)
         | (go_at_call 23;refine(HCL.out _ Q5.out).mono ?_;rintro e w6 ⟨rfl,hw⟩;have B6:=ι (a0b B5.out hw);have Q6:=ι (Q5.out.later hw);clear hw)
         | (go_at_call 24;refine(HMT.out _ Q6.out).mono ?_;rintro e w7 ⟨rfl,hw⟩;have B7:=ι (a0b B6.out hw);have Q7:=ι (Q6.out.later hw);clear hw))
        exact⟨⟨i+1,F5,st5,by omega,by go_num,Q7,B7,G1⟩,by simp[intOf];omega⟩
      ·obtain rfl:i=m:=by omega
       go_wp2_with fail
       go_ret
       exact⟨rfl,HB.out⟩
 ·have d1:decide ((200:Int)<n)=true:=by simp;omega
  clear HLI
  go_enter Tryz.func4,Tryz.ntmps4
  go_wp2_with (go_at_call 22;refine(HK.out _).mono ?_;rintro e w2 ⟨rfl,hb2⟩)
  go_ret
  exact⟨rfl,hb2⟩
end fs
namespace fs
set_option maxRecDepth 100000
open Go.ChangeShapes Go.WideShapes Go.ChangeAt Go.RowKit
open rows
open sec
open ly
open lk
theorem walkCheckStays(p:Option Addr)(n c:Nat)(ss:List (List Int))(q:Option Addr)(m cq:Nat)(l:List AX)(w:World)(hr:Rd w 32 (.slice p n c) n (cellsOf ss))(hnm:n≤maxLen)(hss:Secs ss)(hlr:Rd w 6 (.slice q m cq) m ((l.map AX.c).flatten))(hmm:m≤maxLen)(hok:∀a∈l,a.ok w)(hmx:pa.Mx w) :
  Calls Tryz.prog 4 #[.slice p n c,.slice q m cq] w (Rt w (.bool true)) :=
 b5x w p n c ss hss hr hnm q m cq l hlr hmm hok hmx
end fs
end Go.Proofs.YtpnahagiojelbaaGreatDoor
