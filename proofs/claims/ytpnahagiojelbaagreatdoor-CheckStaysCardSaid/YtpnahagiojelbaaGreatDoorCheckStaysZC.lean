/- What CheckStays wants, part 29. -/
import Derived.Test.YtpnahagiojelbaaGreatDoorCheckStaysB
import Derived.Test.YtpnahagiojelbaaGreatDoorCheckStaysX
import Derived.Test.YtpnahagiojelbaaGreatDoorCheckStaysZB
set_option linter.unusedVariables false
set_option linter.unusedSimpArgs false
namespace Go.Proofs.YtpnahagiojelbaaGreatDoor
namespace lk
set_option maxRecDepth 100000
open Go.ChangeShapes Go.WideShapes Go.ChangeAt Go.RowKit
open rows
open sec
open dsk (wf64)
open ly
open pa
set_option maxHeartbeats 3200000 in
set_option maxRecDepth 100000 in
theorem a9e(w:World)(d:Value)(ss:List (List Int))(s:ByteArray)(hmx:Mx w)(h:Dk w d ss)(hsz:s.size≤100000) :
  Calls Tryz.prog 82 #[d,.string s] w (Rt w (lookT (lookV ss (bys s)))):=by
 have HSP:=ι (b5u s w hmx hsz)
 have HI:=ι fun(i:Int) (hi:wf64 i) w' (hb:Below w.heap.size w w')=>a4a w' d ss i (h.later hb) hi
 have HE:=ι fun(k:Nat) (hk:k<24) w' (hb:Below w.heap.size w w')=>a8f w' d ss (k:Int) (h.later hb) (a0f (by omega))
 have HF:=ι fun(i:Int) (nm:ByteArray) w' (hb:Below w.heap.size w w')=>c1m w' d ss i nm (h.later hb)
 have H4:=ι fun i=>a0q h.secs.1 i
 have HG:=ι fun k=>a5j h.secs.1 k
 clear h hsz hmx
 cases hsp:splitL (bys s) with
 | none =>
  have HV:=ι (c7w (ss:=ss) hsp)
  have E1:Hid (errS (bys s)=9):=ι (by simp[errS,hsp])
  clear hsp
  go_enter Tryz.func82,Tryz.ntmps82
  go_wp2_with (go_at_call 13;refine HSP.out.mono ?_;rintro e w1 ⟨q,m,c1,rfl,hm,hr,hb⟩;rw[E1.out];have B1:=ι hb;clear hb hm hr)
  go_ret2
  exact⟨by rw[HV.out];rfl,B1.out⟩
 | some ns =>
  have HV:=ι (c8z (ss:=ss) hsp)
  have E1:Hid (errS (bys s)=0∧nms (bys s)=ns):=ι (by simp[errS,nms,hsp])
  have hl4:=(a2i hsp).2.2.1
  clear hsp
  go_enter Tryz.func82,Tryz.ntmps82
  go_upto_region 5 with(go_at_call 13;refine HSP.out.mono ?_;rintro e w1 ⟨q,m,c1,rfl,hm,hr,hb⟩;rw[E1.out.1];rw[E1.out.2] at hm hr;have HM:=ι hm;have HR:=ι hr;have B1:=ι hb;clear hb hm hr)
  have hm4:(m:Int)≤4:=by have:=HM.out;omega
  go_wp2_with fail
  go_loopw [8,10,11,12,23] (fun nv _ _ _ iv wr=>∃(i:Nat) (z:Int),i≤m∧iv = .int .i64 (i:Int)∧nv = .int .i64 z∧0≤z∧z≤255∧Hid (lookG ss 0 ns=lookG ss z (ns.drop i))∧Hid (Below w1.heap.size w1 wr)) (fun _ _ _ _ iv _=>m-(intOf iv).toNat)
  case atStart=>exact⟨0,0,by omega,rfl,rfl,by omega,by omega,ι rfl,ι (Below.refl _ _)⟩
  case round =>
   obtain⟨i,z,hi,rfl,rfl,hz0,hz1,HL,HB⟩:=hrel
   by_cases hlt:i<m
   ·have hlti:(i:Int)<m:=by omega
    obtain⟨b,o,rfl,_,_,hbl,hll,hcell⟩:=d0n (HR.out.later HB.out) hlt
    have hc1:=hcell i hlt
    have HC:=ι fun w' (hw:Below wr.heap.size wr w')=>(hw.cell (p:=⟨b,o+i,none⟩) hbl).trans hc1
    have HD:Hid (ns.drop i=ns.getD i []::ns.drop (i+1)):=ι (by
     have hx:i<ns.length:=by omega
     rw[List.drop_eq_getElem_cons hx]
     simp[List.getD,hx])
    have HIk:=ι (HI.out z (a0f (by omega)) wr (a0b B1.out HB.out))
    have hf1:=fieldI0 (inoAt ss z) (H4.out z)
    have HK:=ι fun x r (hne:(inoAt ss z).kind≠2)=>b4a (ss:=ss) (n:=z) (x:=x) (r:=r) hne
    have HNo:=ι fun x r he hf=>c5c (ss:=ss) (n:=z) (x:=x) (r:=r) he hf
    have HSo:=ι fun x r k he hf=>a8x (ss:=ss) (n:=z) (x:=x) (r:=r) (k:=k) he hf
    generalize ns.getD i []=x at hc1 HC HD
    have HFk:=ι fun w' hb=>HF.out z (strOfNums x) w' hb
    obtain⟨kd,hkd⟩:∃kd,(inoAt ss z).kind=kd:=⟨_,rfl⟩
    rw[hkd] at hf1 HK HNo HSo
    generalize aggI (inoAt ss z)=yv at HIk hf1
    clear hkd hcell hbl hll HC
    by_cases hk2:kd=2
    ·subst hk2
     cases hfo:findO ss z (strOfNums x) with
     | none =>
      rw[hfo,a5r] at HFk
      have HZ:Hid (lookV ss (bys s)=(0,4)):=ι (by rw[HV.out,HL.out,HD.out,HNo.out _ _ rfl hfo])
      clear hfo HK HNo HSo
      go_wp2_with (first|(go_at_call 83;refine HIk.out.mono ?_;rintro e w2 ⟨rfl,hb⟩;have B2:=ι (a0b HB.out hb);clear hb)|(go_at_call 134;refine(HFk.out _ (a0b B1.out B2.out)).mono ?_;rintro e w3 ⟨rfl,hb⟩;have B3:=ι (a0b B2.out hb);clear hb))
      go_ret2
      exact⟨by rw[HZ.out];rfl,a0b B1.out B3.out⟩
     | some k =>
      rw[hfo,a5u] at HFk
      have HZ:Hid (lookG ss 0 ns=lookG ss (entAt ss (k:Int)).target (ns.drop (i+1))):=ι (by rw[HL.out,HD.out,HSo.out _ _ k rfl hfo])
      have hk24:=b4v hfo
      have HEk:=ι (HE.out k hk24)
      obtain⟨_,_,t0,t1⟩:=HG.out (k:Int)
      have hf3:=fieldE3 (entAt ss (k:Int))
      generalize (entAt ss (k:Int)).target=tg at HZ t0 t1 hf3
      generalize aggE (entAt ss (k:Int))=xv at HEk hf3
      clear hfo HK HNo HSo
      go_wp2_with (first|(go_at_call 83;refine HIk.out.mono ?_;rintro e w2 ⟨rfl,hb⟩;have B2:=ι (a0b HB.out hb);clear hb)|(go_at_call 134;refine(HFk.out _ (a0b B1.out B2.out)).mono ?_;rintro e w3 ⟨rfl,hb⟩;have B3:=ι (a0b B2.out hb);clear hb)|(go_at_call 135;refine(HEk.out _ (a0b B1.out B3.out)).mono ?_;rintro e w4 ⟨rfl,hb⟩;have B4:=ι (a0b B3.out hb);clear hb))
      go_roundw
      case rel=>exact⟨i+1,tg,by omega,by go_num,rfl,t0,t1,HZ,B4⟩
      case measure=>simp[intOf];omega
    ·have HZ:Hid (lookV ss (bys s)=(0,6)):=ι (by rw[HV.out,HL.out,HD.out,HK.out _ _ hk2])
     have hkb:(kd != 2)=true:=by simpa using hk2
     clear HK HNo HSo hk2
     go_wp2_with (go_at_call 83;refine HIk.out.mono ?_;rintro e w2 ⟨rfl,hb⟩;have B2:=ι (a0b HB.out hb);clear hb)
     go_ret2
     exact⟨by rw[HZ.out];rfl,a0b B1.out B2.out⟩
   ·have hge:(m:Int)≤i:=by omega
    have HZ:Hid (lookV ss (bys s)=(z,0)):=ι (by
     rw[HV.out,HL.out,List.drop_of_length_le (by have:=HM.out;omega)];rfl)
    go_wp2_with fail
    go_ret2
    exact⟨by rw[HZ.out];rfl,a0b B1.out HB.out⟩
end lk
end Go.Proofs.YtpnahagiojelbaaGreatDoor
