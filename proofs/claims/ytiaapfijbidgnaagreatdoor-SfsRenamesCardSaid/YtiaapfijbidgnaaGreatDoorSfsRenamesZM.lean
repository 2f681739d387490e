/- What SfsRenames wants, part 39. -/
import Derived.Test.YtiaapfijbidgnaaGreatDoorSfsRenamesB
import Derived.Test.YtiaapfijbidgnaaGreatDoorSfsRenamesP
import Derived.Test.YtiaapfijbidgnaaGreatDoorSfsRenamesZH
import Derived.Test.YtiaapfijbidgnaaGreatDoorSfsRenamesZI
import Derived.Test.YtiaapfijbidgnaaGreatDoorSfsRenamesZK
import Derived.Test.YtiaapfijbidgnaaGreatDoorSfsRenamesZL
set_option linter.unusedVariables false
set_option linter.unusedSimpArgs false
namespace Go.Proofs.YtiaapfijbidgnaaGreatDoor
namespace fs
set_option maxRecDepth 100000
open Go.ChangeShapes Go.WideShapes Go.ChangeAt Go.RowKit
open rows
open sec
open dsk (InS grow St Wr Wr.c st0 Ev EvsIn CrLog cat atOk atSt clog cimage imgOk imgUpto wrsC)
open ly
open pa
open lk
open al
theorem b7l{st:St}(h:Sound st){t:List Nd}(I:Inv (nowL st) t):mountsB (nowL st)=true:=b8l I.sim.fit.len I.sim.fit.secs h.top I.sim.fit.root
theorem mfresh(w:World)(p:Option Addr)(c:Nat)(ss:List (List Int))(hs:Secs ss)(hr:Rd w 32 (.slice p 65 c) 65 (cellsOf ss))(hm:mountsB ss=true) :
  Calls Tryz.prog 27 #[.slice p 65 c] w fun e w'=>Below w.heap.size w w'∧∃ad d,e = .returned (.pointer (some ad))∧FI d w' (fun b=>w.heap.size≤b∧b<w'.heap.size) (.pointer (some ad)) (st0 ss):=by
 refine(qfresh w p 65 c ss hs hr (by decide)).mono ?_
 rintro e w' ⟨hb,⟨_,h⟩|⟨ad,d,he,hf,_⟩⟩
 ·rw[hm] at h;cases h
 ·exact⟨hb,ad,d,he,hf⟩
theorem d3l{S:Nat→Prop}{w:World}{ss:List (List Int)}{u:ByteArray}{v:List Int}{es:List Ev}(h:RenAny ss u v es){p:Option Addr}{c:Nat}{vs:List Value}(he:EvsIn (fun _=>True) w (.slice p es.length c) es es.length vs):CrLog w p es.length c es vs:=by
 have hl:=(d0f h).choose_spec.1
 exact⟨he,fun e hm=>⟨(b4x h e hm).1,(b4x h e hm).2.1,fun t ht=>by rw[(b4x h e hm).2.2] at ht;cases ht⟩,by omega,fun e hm=>by rw[(b4x h e hm).2.2];simp⟩
theorem qreadN(d:Value)(w:World)(F:Nat→Prop)(f:Value)(st:St)(k:Nat)(hf:FI d w F f st)(hg:st.good k)(hk:k≤880)(hm:Mx w)(s:ByteArray)(hsz:s.size≤100000) :
  Calls Tryz.prog 31 #[f,.string s] w fun e w'=>∃p n c,e = .returned (.tuple #[.slice p n c,.int .i64 (readV (nowL st) s).2])∧n=(readV (nowL st) s).1.length∧Rd w' 1 (.slice p n c) n ((readV (nowL st) s).1.map (Value.int .u8))∧Below w.heap.size w w'∧∀a,p=some a→w.heap.size≤a.block:=by
 obtain⟨g,rfl,hK⟩:=b0e hf hg hk
 exact freadN w g d _ s hK hm hsz
theorem ren_cat{w:World}{L:List (List Int)}{u:ByteArray}{va:List Int}{es:List Ev}{ws:List Wr}(hs:Secs L)(hl:L.length=65)(h:RenAny L u va es)(hok:atOk 65 es.length es (es.length:Int)=true)(hst:atSt 65 es.length L es (es.length:Int)=(L,ws)){pb:Option Addr}{cb:Nat}(hb:Rd w 32 (.slice pb 65 cb) 65 (cellsOf L)){p:Option Addr}{c:Nat}{vs:List Value}(he:EvsIn (fun _=>True) w (.slice p es.length c) es es.length vs) :
  Calls Tryz.prog 33 #[.slice pb 65 cb,.slice p es.length c,.int .i64 (es.length:Int)] w fun e w'=>∃ps cs pw cw,e = .returned (.tuple #[.agg #[.slice ps 65 cs,.slice pw ws.length cw],.bool true])∧Rd w' 32 (.slice ps 65 cs) 65 (cellsOf L)∧Rd w' 36 (.slice pw ws.length cw) ws.length (wrsC ws)∧Below w.heap.size w w':=by
 have h3:=(d0f h).choose_spec.1
 refine(cat w pb 65 cb L p es.length c es vs (es.length:Int) ⟨hb,hs,hl,by decide,d3l (S:=fun _=>True) h he,a0f (by omega)⟩).mono ?_
 rintro e w' ⟨hbl,ps,ns,cs,pw,mw,cw,rfl,hr1,hn1,hr2,hn2⟩
 rw[hst] at hr1 hn1 hr2 hn2
 simp only at hr1 hn1 hr2 hn2
 rw[hl] at hn1
 subst hn1 hn2
 exact⟨ps,cs,pw,cw,by rw[hok],hr1,hr2,hbl⟩
theorem d4t{c:Nat}{ws:List Wr}{L:List (List Int)}(hs:Secs L)(hl:L.length=65)(hw:∀x∈ws,Sec x.s)(h:imgOk c ws 65=true):Secs (imgUpto c ws L ws.length):=by
 rw[imgOk,Bool.and_eq_true] at h
 have ha:ws.any (dsk.missB 65)=false:=by simpa using h.2
 refine dsk.a6q c ws L hs hw ws.length fun k hk _ => ?_
 rw[hl]
 cases hm:dsk.missB 65 ws[k] with
 | false=>rfl
 | true =>
  have:ws.any (dsk.missB 65)=true:=List.any_eq_true.2 ⟨_,List.getElem_mem hk,hm⟩
  rw[ha] at this;cases this
theorem ren_img{w:World}{L:List (List Int)}{u:ByteArray}{va:List Int}{ws:List Wr}(hs:Secs L)(hl:L.length=65)(hm:mountsB L=true)(C:CrashOk L u va ws){k:Nat}(hk:k=0∨k=1∨k=4∨k=5){ps:Option Addr}{cs:Nat}{pw:Option Addr}{cw:Nat}(h1:Rd w 32 (.slice ps 65 cs) 65 (cellsOf L))(h2:Rd w 36 (.slice pw ws.length cw) ws.length (wrsC ws)) :
  Calls Tryz.prog 34 #[.agg #[.slice ps 65 cs,.slice pw ws.length cw],.int .u64 (k:Int)] w fun e w'=>Below w.heap.size w w'∧((k≠0∧e = .returned (.tuple #[.slice none 0 0,.bool false]))∨∃p cc B,e = .returned (.tuple #[.slice p 65 cc,.bool true])∧Rd w' 32 (.slice p 65 cc) 65 (cellsOf B)∧Secs B∧mountsB B=true∧(B=L∨readV B u=(va,0))):=by
 have hws:=C.few
 refine(cimage k ps 65 cs pw ws.length cw L ws w (by omega) ⟨h1,hs,hl,by decide,h2,C.secs,by omega⟩).mono ?_
 rintro e w' ⟨hb,⟨h,rfl⟩|⟨h,p,cc,rfl,ho⟩⟩
 ·refine⟨hb,Or.inl ⟨fun h0 => ?_,rfl⟩⟩
  rw[h0,C.none_] at h;cases h
 ·refine⟨hb,Or.inr ⟨p,cc,_,rfl,ho.rd,d4t hs hl C.secs h,?_,?_⟩⟩
  ·rcases C.img k hk h with e|e
   ·rw[e];exact hm
   ·exact e.1
  ·rcases C.img k hk h with e|e
   ·exact Or.inl e
   ·exact Or.inr e.2
theorem d3j(c:Nat)(hc:c<18446744073709551616):bits .and .u64 (c:Int) 5=((c &&& 5:Nat):Int):=u64_and_nat c 5 hc (by decide)
set_option maxRecDepth 100000 in
set_option maxHeartbeats 16000000 in
theorem b5k(w:World)(q:Option Addr)(m cq:Nat)(l:List AX)(hlr:Rd w 6 (.slice q m cq) m ((l.map AX.c).flatten))(hmm:m≤maxLen)(hok:∀a∈l,a.ok w)(s u:ByteArray)(hsm:s.size≤maxLen)(hum:u.size≤maxLen)(c:Nat)(hc:c<18446744073709551616)(hmx:Mx w) :
  Calls Tryz.prog 4 #[.slice q m cq,.string s,.string u,.int .u64 (c:Int)] w (Rt w (.bool true)):=by
 have HLI:=ι (c5z q m cq 40 l w (by decide) (Below.refl _ _) hok hlr hmm)
 have HK:=ι fun w' (hb:Below w.heap.size w w')=>c9l sfsIs sfsHas knHas w' (hmx.later hb)
 have HMX:=ι hmx
 have HOK:=ι hok
 have HR:=ι hlr
 have HNU:=ι fun z w'=>c3q z w'
 have HC5:=ι (d3j c hc)
 have HK5:=ι (d2i c)
 have HKL:Hid (c &&& 5<18446744073709551616):=ι (Nat.lt_of_le_of_lt Nat.and_le_right (by decide))
 have hq:=fun p w'=>dsk.null_eq c1y p w'
 have hm9:(m:Int)≤9223372036854775807:=by unfold maxLen at hmm;omega
 have hs9:(s.size:Int)≤9223372036854775807:=by unfold maxLen at hsm;omega
 have hu9:(u.size:Int)≤9223372036854775807:=by unfold maxLen at hum;omega
 clear hlr hok hmx hc
 go_enter Tryz.func4,Tryz.ntmps4
 go_wp2_with fail
 refine HLI.out.mono ?_
 rintro e w1 ⟨b,rfl,rfl,hb⟩
 clear HLI
 cases b with
 | false =>
  clear hb
  go_wp2_with (go_at_call 8;refine(HK.out _ (Below.refl _ _)).mono ?_;rintro e w2 ⟨rfl,hb2⟩)
  go_ret
  exact⟨rfl,hb2⟩
 | true =>
  obtain⟨hn40,hli⟩:=hb rfl
  have HLL:=ι hli
  clear hb hli
  by_cases hs1:s.size≤100
  case neg =>
   have d2:decide ((100:Int)<s.size)=true:=by simp;omega
   go_wp2_with (go_at_call 8;refine(HK.out _ (Below.refl _ _)).mono ?_;rintro e w2 ⟨rfl,hb2⟩)
   go_ret
   exact⟨rfl,hb2⟩
  have d2:decide ((100:Int)<s.size)=false:=by simp;omega
  by_cases hu1:u.size≤100
  case neg =>
   have d3:decide ((100:Int)<u.size)=true:=by simp;omega
   go_wp2_with (go_at_call 8;refine(HK.out _ (Below.refl _ _)).mono ?_;rintro e w2 ⟨rfl,hb2⟩)
   go_ret
   exact⟨rfl,hb2⟩
  have d3:decide ((100:Int)<u.size)=false:=by simp;omega
  go_upto_region 6 with(first
   | (go_at_call 8;refine(HK.out _ (Below.refl _ _)).mono ?_;rintro e w2 ⟨rfl,hb2⟩;have B2:=ι hb2;clear hb2)
   | (go_at_call 28;refine(b3d _).mono ?_;rintro e w3 ⟨pe,ce,rfl,hre,hb3⟩;have RE:=ι hre;have B3:=ι (a0b B2.out hb3);clear hre hb3)
   | (go_at_call 27;refine(mfresh _ _ _ _ a1g RE.out a6b).mono ?_;rintro e w4 ⟨hb4,af,d0,rfl,hf⟩;have HF:=ι hf;have B4:=ι (a0b B3.out hb4);have B34:=ι hb4;clear hf hb4))
  have Q0:Hid (QAt w.heap.size d0 (.pointer (some af)) w4 (fun b=>w3.heap.size≤b∧b<w4.heap.size) (st0 emptyImg) (10 * 0)):=ι ⟨HF.out,a5m a1g (Nat.le_of_eq a1p),fun b hb=>⟨Nat.le_trans B3.out.size hb.1,hb.2⟩⟩
  have S0:Hid (Sound (st0 emptyImg)∧∃t,Inv (nowL (st0 emptyImg)) t):=ι ⟨c0f,[],c7g⟩
  generalize (fun b=>w3.heap.size≤b∧b<w4.heap.size)=F0 at *
  generalize st0 emptyImg=z0 at *
  clear B2 B3 B34 RE HF HK
  go_wp2_with fail
  go_loopw [10] (fun iv wr=>∃(i:Nat) (F:Nat→Prop) (st:St),i≤m∧iv = .int .i64 (i:Int)∧Hid (QAt w.heap.size d0 (.pointer (some af)) wr F st (10 * i))∧Hid (Sound st∧∃t,Inv (nowL st) t)∧Hid (Below w.heap.size w wr)) (fun iv _=>m-(intOf iv).toNat)
  case atStart=>exact⟨0,F0,z0,by omega,rfl,Q0,S0,B4⟩
  case round =>
   clear Q0 S0 B4
   obtain⟨i,F,st,hi,rfl,HQ,HSI,HB⟩:=hrel
   by_cases hin:i<m
   ·have hin1:(i:Int)<m:=by omega
    have hil:i<l.length:=by have:=dsk.Rd.count AX.c HR.out (fun _ _=>rfl) (by decide);omega
    obtain⟨b1,o1,rfl,hc1,hm1,hh1,hl1,HR1⟩:=dsk.Rd.chunk AX.c HR.out (fun _ _=>rfl) (by decide) hin
    have hmem:=List.getElem_mem hil
    have HWR:=ι (Rd.rangeLater (HR1 i hil) hh1 HB.out)
    have HXO:=ι (HOK.out _ hmem)
    have HXL:=ι (HLL.out _ hmem)
    generalize l[i]=x at *
    have hk0:wr.cell? ⟨b1,o1+i * 6,none⟩=some (.int .i64 x.a.kind):=by have:=HWR.out 0 _ rfl;simpa using this
    clear HR1 hl1 hmem
    obtain⟨kd,hkd⟩:∃kd,x.a.kind=kd:=⟨_,rfl⟩
    rw[hkd] at hk0
    by_cases h7:kd=7
    ·rw[h7] at hk0
     clear hkd h7
     go_wp2_with fail
     exact⟨⟨i+1,F,st,by omega,by go_num,ι ⟨HQ.out.fi,a1t HQ.out.good (by omega),HQ.out.inF⟩,HSI,HB⟩,by simp[intOf];omega⟩
    ·have h7b:(kd != 7)=true:=by simpa using h7
     have HDO:=ι (ldo_any (sfsIs d0) wr F (.pointer (some af)) st (10 * i) HQ.out.fi HQ.out.good (by omega) (HMX.out.later HB.out) x.a x.p1 x.n1 x.c1 x.p2 x.n2 x.c2 ((AX.actIn HXO.out HXL.out).later HB.out) (fun a m c hv hm hF=>by
      have h1:=d0z HXO.out.rd a m c hv hm
      have h2:=(HQ.out.inF _ hF).1
      omega) (by rw[hkd];exact h7))
     have hG:(fDo st x.a).2.good (10 * (i+1)):=d2d HQ.out.good x.a HXO.out.bb
     have HGD:=ι hG
     have HSN:Hid (Sound (fDo st x.a).2∧∃t,Inv (nowL (fDo st x.a).2) t):=ι (by
      obtain⟨t,I⟩:=HSI.out.2
      obtain⟨_,h2,h3⟩:=act_inv HSI.out.1 I x.a HXO.out.bb
      exact⟨h3,_,h2⟩)
     clear hG hkd h7
     go_wp2_with (first|(refine d0a rfl (.tmp 63) rfl b1 (o1+i * 6) rfl x HWR.out ?_)|(go_at_call 22;refine HDO.out.mono ?_;rintro e w5 hd;have Q5:=ι (HQ.out.done HB.out.size hd HGD.out);have B5:=ι (HB.out.trans (HQ.out.below HB.out.size hd));obtain⟨rfl,_⟩:=hd))
     exact⟨⟨i+1,_,_,by omega,by go_num,Q5,HSN,B5⟩,by simp[intOf];omega⟩
   ·obtain rfl:i=m:=by omega
    obtain⟨t,I⟩:=HSI.out.2
    have HI:=ι I
    have HTOP:=ι HSI.out.1.top
    have HMB:=ι (b7l HSI.out.1 I)
    have HDK:=ι (HQ.out.dk (by omega))
    have HDI:=ι (sfsHas.disk d0 wr F _ st (10 * i) HQ.out.fi HQ.out.good (by omega))
    have HLN:=ι I.sim.fit.len
    have HSS:=ι I.sim.fit.secs
    clear I HR HOK HLL HQ HSI
    generalize nowL st=L at *
    have HIM:=ι (limage wr d0 L HDK.out HLN.out)
    clear HDK
    go_upto_region 15 with(first
     | (go_at_call 30;refine HDI.out.mono ?_;rintro e wd ⟨rfl,hw⟩;obtain rfl:=hw.symm)
     | (go_at_call 29;refine HIM.out.mono ?_;rintro e w5 ⟨pb,cb,rfl,hr5,hb5⟩;have B5:=ι (a0b HB.out hb5);have R5:=ι hr5;clear hr5 hb5)
     | (go_at_call 27;refine(mfresh _ _ _ _ HSS.out R5.out HMB.out).mono ?_;rintro e w6 ⟨hb6,ag,d1,rfl,hf⟩;have HF:=ι hf;have B6:=ι (a0b B5.out hb6);have R6:=ι (R5.out.later hb6);clear hf hb6))
    have hz5:=B5.out.size
    have Q6:Hid (QAt w.heap.size d1 (.pointer (some ag)) w6 (fun b=>w5.heap.size≤b∧b<w6.heap.size) (st0 L) 0):=ι ⟨HF.out,a5m HSS.out (by rw[HLN.out];exact Nat.le_refl _),fun b hb=>⟨Nat.le_trans hz5 hb.1,hb.2⟩⟩
    have HIB:Hid (InS (fun b=>¬(w5.heap.size≤b∧b<w6.heap.size)) (.slice pb 65 cb)):=ι ((d0z R5.out).mono fun b hb hF=>by omega)
    have HNF:Hid (∀b,w6.heap.size≤b→¬(w5.heap.size≤b∧b<w6.heap.size)):=ι fun b hb hF=>by omega
    clear HF B5 HIM HDI hz5 R5 HB
    obtain⟨F6,hF6⟩:∃F:Nat→Prop,F=fun b=>w5.heap.size≤b∧b<w6.heap.size:=⟨_,rfl⟩
    have HIB2:Hid (InS (fun b=>¬F6 b) (.slice pb 65 cb)):=by rw[hF6];exact HIB
    have HNF2:Hid (∀b,w6.heap.size≤b→¬F6 b):=by rw[hF6];exact HNF
    rw[← hF6] at Q6
    clear HIB HNF hF6
    have HRS:=ι fun w' (h:QAt w.heap.size d1 (.pointer (some ag)) w' F6 (st0 L) 0) (hb:Below w.heap.size w w')=>qreadN d1 w' F6 _ (st0 L) 0 h.fi h.good (by decide) (HMX.out.later hb) s (by omega)
    have HRU:=ι fun w' (h:QAt w.heap.size d1 (.pointer (some ag)) w' F6 (st0 L) 0) (hb:Below w.heap.size w w')=>qreadN d1 w' F6 _ (st0 L) 0 h.fi h.good (by decide) (HMX.out.later hb) u (by omega)
    have HRN:=ι fun w' (h:QAt w.heap.size d1 (.pointer (some ag)) w' F6 (st0 L) 0) (hb:Below w.heap.size w w')=>(sfsIs d1).rename w' F6 _ (st0 L) 0 s u h.fi h.good (by decide) (HMX.out.later hb) (by omega) (by omega)
    have HGD:Hid ((renameV (st0 L) s u).2.good 10):=ι (b2h Q6.out.good s u)
    have HRF:=ι fun va (h:readV L s=(va,0)) h0=>d4i HI.out HTOP.out (s:=s) (u:=u) (v:=va) h h0
    have HSM:=ι (a5k HSS.out s)
    have HUM:=ι (a5k HSS.out u)
    rw[a7k] at HRS HRU
    obtain⟨rs,hrs⟩:∃rs,readV L s=rs:=⟨_,rfl⟩
    obtain⟨ru,hru⟩:∃ru,readV L u=ru:=⟨_,rfl⟩
    rw[hrs] at HRS HRF HSM
    rw[hru] at HRU HUM
    have HVS:=ι hrs
    have HVU:=ι hru
    generalize renameV (st0 L) s u=rr at *
    clear hrs hru HI HTOP
    obtain⟨va,ea⟩:=rs
    obtain⟨vb,eb⟩:=ru
    obtain⟨er,sr⟩:=rr
    simp only at HRS HRU HRN HGD HRF HSM HUM
    go_upto_region 17 with(first
     | (go_at_call 31;(with_reducible refine(HRS.out _ Q6.out B6.out).mono ?_);rintro e w7 ⟨p7,n7,c7,rfl,hn7,hr7,hb,hnw⟩;have N7:Hid (InS (fun b=>¬F6 b) (.slice p7 n7 c7)):=ι (fun a n c e _=>by cases e;exact HNF2.out _ (hnw _ rfl));have L67:=ι hb.size;clear hnw;have B7:=ι (a0b B6.out hb);have R7:=ι (R6.out.later hb);have Q7:=ι (Q6.out.later hb);have V7:=ι hr7;subst hn7;clear hb hr7)
     | (go_at_call 31;(with_reducible refine(HRU.out _ Q7.out B7.out).mono ?_);rintro e w8 ⟨p8,n8,c8,rfl,hn8,hr8,hb,hnw⟩;have N8:Hid (InS (fun b=>¬F6 b) (.slice p8 n8 c8)):=ι (fun a n c e _=>by cases e;exact HNF2.out _ (Nat.le_trans L67.out (hnw _ rfl)));clear hnw;have B8:=ι (a0b B7.out hb);have R8:=ι (R7.out.later hb);have Q8:=ι (Q7.out.later hb);have V78:=ι (V7.out.later hb);have V8:=ι hr8;subst hn8;clear hb hr8))
    clear B6 B7 R6 R7 Q6 Q7 V7 HRS HRU
    by_cases hea:ea=0
    case neg =>
     have hb:(ea != 0)=true:=by simpa using hea
     clear hea
     go_wp2_with (go_at_call 13;refine(HNU.out _ _).mono ?_;rintro e wn ⟨rfl,hw⟩;obtain rfl:=hw.symm)
     go_ret
     exact⟨rfl,B8.out⟩
    subst hea
    have HREN0:=ι (HRF.out va rfl)
    clear HRF L67 HNF2
    by_cases her:er=0
    case neg =>
     have hb:(er != 0)=true:=by simpa using her
     clear her HREN0
     go_wp2_with (first
      | (go_at_call 32;refine(HRN.out _ Q8.out B8.out).mono ?_;rintro e w9 hd;have B9:=ι (B8.out.trans (Q8.out.below B8.out.size hd));obtain⟨rfl,_⟩:=hd)
      | (go_at_call 13;refine(HNU.out _ _).mono ?_;rintro e wn ⟨rfl,hw⟩;obtain rfl:=hw.symm))
     go_ret
     exact⟨rfl,B9.out⟩
    subst her
    have HREN:=ι (HREN0.out rfl)
    clear HREN0
    go_upto_region 19 with(first
      | (go_at_call 32;refine(HRN.out _ Q8.out B8.out).mono ?_;rintro e w9 hd;have B9:=ι (B8.out.trans (Q8.out.below B8.out.size hd));have Q9:=ι (Q8.out.done B8.out.size hd HGD.out);have HKP:=hd.2.2.keeps (S:=fun b=>¬F6 b) (fun b hb hF=>hb hF);have R9:=ι (dsk.Rd.kept R8.out HIB2.out HKP);have V79:=ι (dsk.Rd.kept V78.out N7.out HKP);have V89:=ι (dsk.Rd.kept V8.out N8.out HKP);clear HKP;obtain⟨rfl,_⟩:=hd)
      | (go_at_call 13;refine(HNU.out _ _).mono ?_;rintro e wn ⟨rfl,hw⟩;obtain rfl:=hw.symm))
    clear HRN HGD Q8 V78 V8 N7 N8 R8 HIB2 B8
    obtain⟨F9,hF9⟩:∃F',F'=grow F6 w8 w9:=⟨_,rfl⟩
    rw[← hF9] at Q9
    clear hF9
    obtain⟨es,hes⟩:∃es,sr.log=es:=⟨_,rfl⟩
    rw[hes] at HREN
    obtain⟨ws,hl3,hao,has,hcr⟩:=d0f HREN.out
    have HCR:=ι hcr
    have hw2:=hcr.few
    have HDI:=ι fun w' (h:QAt w.heap.size d1 (.pointer (some ag)) w' F9 sr 10)=>sfsHas.disk d1 w' F9 _ sr 10 h.fi h.good (by decide)
    have HLG:=ι fun w' (h:QAt w.heap.size d1 (.pointer (some ag)) w' F9 sr 10)=>clog w' F9 d1 sr (sfsHas.code d1 w' F9 _ sr h.fi) (h.good.fine (by decide))
    rw[hes] at HLG
    have HCT:=ι fun w' pb cb hb p c vs he=>ren_cat (w:=w') HSS.out HLN.out HREN.out hao has (pb:=pb) (cb:=cb) hb (p:=p) (c:=c) (vs:=vs) he
    clear hcr hao has hes
    obtain⟨nl,hnl⟩:∃nl,es.length=nl:=⟨_,rfl⟩
    rw[hnl] at HLG HCT hl3
    clear hnl
    go_upto_region 20 with(first
     | (go_at_call 30;(with_reducible refine(HDI.out _ Q9.out).mono ?_);rintro e wd ⟨rfl,hw⟩;obtain rfl:=hw.symm)
     | (go_at_call 30;(with_reducible refine(HDI.out _ Q10.out).mono ?_);rintro e wd ⟨rfl,hw⟩;obtain rfl:=hw.symm)
     | (go_at_call 26;(with_reducible refine(HLG.out _ Q9.out).mono ?_);rintro e w10 ⟨p10,c10,vs10,rfl,he,hb⟩;have B10:=ι (a0b B9.out hb);have Q10:=ι (Q9.out.later hb);have R10:=ι (R9.out.later hb);have V710:=ι (V79.out.later hb);have V810:=ι (V89.out.later hb);have E10:=ι he;clear he hb)
     | (go_at_call 26;(with_reducible refine(HLG.out _ Q10.out).mono ?_);rintro e w11 ⟨p11,c11,vs11,rfl,he,hb⟩;have B11:=ι (a0b B10.out hb);have R11:=ι (R10.out.later hb);have V711:=ι (V710.out.later hb);have V811:=ι (V810.out.later hb);have E11:=ι (dsk.b6x E10.out hb);clear he hb)
     | (go_at_call 33;refine(HCT.out _ _ _ R11.out _ _ _ E11.out).mono ?_;rintro e w12 ⟨ps,cs,pw,cw,rfl,hr1,hr2,hb⟩;have B12:=ι (a0b B11.out hb);have V712:=ι (V711.out.later hb);have V812:=ι (V811.out.later hb);have R12:=ι hr1;have W12:=ι hr2;clear hr1 hr2 hb))
    clear HCT HLG HDI Q9 Q10 R9 R10 R11 E10 E11 V79 V89 V710 V810 V711 V811 B9 B10 B11 HREN hl3
    obtain⟨k5,hk5⟩:∃k5,c &&& 5=k5:=⟨_,rfl⟩
    rw[hk5] at HC5 HK5 HKL
    clear hk5
    have HIG:=ι fun w' h1 h2=>ren_img (w:=w') HSS.out HLN.out HMB.out HCR.out HK5.out (ps:=ps) (cs:=cs) (pw:=pw) (cw:=cw) h1 h2
    obtain⟨nw,hnw⟩:∃nw,ws.length=nw:=⟨_,rfl⟩
    rw[hnw] at HIG W12 hw2 ⊢
    clear hnw
    have d4:decide ((2:Int)<nw)=false:=by simp;omega
    have hb5:=HC5.out
    have al:=a0a (Below.refl w12.heap.size w12) (.cells #[.slice ps 65 cs,.slice pw nw cw] 67)
    have HIG2:=ι (HIG.out _ (R12.out.later al) (W12.out.later al))
    have B13:=ι (a0b B12.out al)
    have V713:=ι (V712.out.later al)
    have V813:=ι (V812.out.later al)
    clear al HIG R12 W12 V712 V812 B12
    go_wp2_with fail
    refine HIG2.out.mono ?_
    rintro e w13 ⟨hb,⟨hk0,rfl⟩|⟨pB,cB,B,rfl,hrB,hsB,hmB,hor⟩⟩
    ·have B14:=ι (a0b B13.out hb)
     have hkb:((k5:Int) != 0)=true:=by
      have:(k5:Int)≠0:=by omega
      simpa using this
     clear hb hk0 HIG2 V713 V813 B13
     go_wp2_with fail
     go_ret
     exact⟨rfl,B14.out⟩
    ·have B14:=ι (a0b B13.out hb)
     have V714:=ι (V713.out.later hb)
     have V814:=ι (V813.out.later hb)
     have HRB:=ι hrB
     have HSB:=ι hsB
     have HMF:=ι hmB
     have hbl:B.length=65:=by have h:=hmB;rw[mountsB,Bool.and_eq_true,decide_eq_true_eq] at h;exact h.1
     have HBL:=ι hbl
     obtain⟨ra,hra⟩:∃ra,readV B s=ra:=⟨_,rfl⟩
     obtain⟨rb,hrb⟩:∃rb,readV B u=rb:=⟨_,rfl⟩
     obtain⟨xa,ex⟩:=ra
     obtain⟨xb,ey⟩:=rb
     have HF:Hid (((ex == 0) && ((strOfNums xa).toList == (strOfNums va).toList) || (ey == 0) && ((strOfNums xb).toList == (strOfNums va).toList))=true):=ι (by
      rcases hor with e|e
      ·rw[e,HVS.out] at hra
       injection hra with e1 e2
       subst e1 e2;simp
      ·rw[e] at hrb
       injection hrb with e1 e2
       subst e1 e2;simp)
     have HG:Hid (((eb != 0) || (ey == 0) && ((strOfNums xb).toList == (strOfNums vb).toList || (strOfNums xb).toList == (strOfNums va).toList))=true):=ι (by
      rcases hor with e|e
      ·rw[e,HVU.out] at hrb
       injection hrb with e1 e2
       subst e1 e2
       by_cases h0:eb=0
       ·rw[h0];simp
       ·have:(eb != 0)=true:=by simpa using h0
        rw[this];rfl
      ·rw[e] at hrb
       injection hrb with e1 e2
       subst e1 e2;simp)
     have HXA:Hid (∀z∈xa,0≤z∧z<256):=ι (by have h:=a5k hsB s;rw[hra] at h;exact h)
     have HXB:Hid (∀z∈xb,0≤z∧z<256):=ι (by have h:=a5k hsB u;rw[hrb] at h;exact h)
     have HRA:=ι hra
     have HRY:=ι hrb
     clear hb HIG2 V713 V813 B13 hrB hsB hmB hor hra hrb hbl HCR
     go_upto_region 28 with(go_at_call 27;refine(mfresh _ _ _ _ HSB.out HRB.out HMF.out).mono ?_;rintro e w15 ⟨hb15,ah,d2,rfl,hf⟩;have B15:=ι (a0b B14.out hb15);have V715:=ι (V714.out.later hb15);have V815:=ι (V814.out.later hb15);have HFB:=ι hf;clear hf hb15)
     have hgB:(st0 B).good 0:=a5m HSB.out (by rw[HBL.out];exact Nat.le_refl _)
     have HRS:=ι (qreadN d2 w15 _ _ (st0 B) 0 HFB.out hgB (by decide) (HMX.out.later B15.out) s (by omega))
     have HRU:=ι fun w' (hb:Below w15.heap.size w15 w')=>qreadN d2 w' _ _ (st0 B) 0 ((sfsIs d2).later HFB.out hb) hgB (by decide) (HMX.out.later (a0b B15.out hb)) u (by omega)
     rw[a7k,HRA.out] at HRS
     rw[a7k,HRY.out] at HRU
     simp only at HRS HRU
     clear HFB hgB HRB HSB HMF HBL HRA HRY B14 V714 V814
     go_upto_region 30 with(first
      | (go_at_call 31;(with_reducible refine HRS.out.mono ?_);rintro e w16 ⟨p16,n16,c16,rfl,hn16,hr16,hb,_⟩;have B16:=ι (a0b B15.out hb);have L16:=ι hb;have V716:=ι (V715.out.later hb);have V816:=ι (V815.out.later hb);have VA:=ι hr16;subst hn16;clear hb hr16)
      | (go_at_call 31;(with_reducible refine(HRU.out _ L16.out).mono ?_);rintro e w17 ⟨p17,n17,c17,rfl,hn17,hr17,hb,_⟩;have B17:=ι (a0b B16.out hb);have hcv1:=a6k (V716.out.later hb) HSM.out;have hcv2:=a6k (V816.out.later hb) HUM.out;have hcv3:=a6k (VA.out.later hb) HXA.out;have hcv4:=a6k hr17 HXB.out;subst hn17;clear hb hr17))
     clear HRS HRU V715 V815 V716 V816 VA L16 HSM HUM HXA HXB B15 B16
     have hF:=HF.out
     have hG:=HG.out
     clear HF HG HVS HVU
     generalize strOfNums va=sa at *
     generalize strOfNums vb=sb at *
     generalize strOfNums xa=sx at *
     generalize strOfNums xb=sy at *
     generalize va.length=na at *
     generalize vb.length=nb at *
     generalize xa.length=nx at *
     generalize xb.length=ny at *
     obtain⟨b1,hb1⟩:∃b,(ex == 0)=b:=⟨_,rfl⟩
     obtain⟨b2,hb2⟩:∃b,(sx.toList == sa.toList)=b:=⟨_,rfl⟩
     obtain⟨b3,hb3⟩:∃b,(ey == 0)=b:=⟨_,rfl⟩
     obtain⟨b4,hb4⟩:∃b,(sy.toList == sa.toList)=b:=⟨_,rfl⟩
     obtain⟨b6,hb6⟩:∃b,(eb != 0)=b:=⟨_,rfl⟩
     obtain⟨b7,hb7⟩:∃b,(sy.toList == sb.toList)=b:=⟨_,rfl⟩
     rw[hb1,hb2,hb3,hb4] at hF
     rw[hb6,hb3,hb7,hb4] at hG
     have HF:=ι hF
     have HG:=ι hG
     clear hF hG hb5
     cases b1<;>cases b3<;>cases b6
     all_goals
      cases b2<;>cases b4<;>cases b7
     all_goals
      first
       | exact absurd HF.out (by decide)
       | exact absurd HG.out (by decide)
       | (
         go_wp2_with (go_at_call 13;refine(HNU.out _ _).mono ?_;rintro e wn ⟨rfl,hw⟩;obtain rfl:=hw.symm)
         go_ret
         exact⟨rfl,B17.out⟩)
end fs
namespace fs
set_option maxRecDepth 100000
open Go.ChangeShapes Go.WideShapes Go.ChangeAt Go.RowKit
open rows
open sec
open ly
open lk
theorem wf_u64R{n:Int}(h:(Lit.int .u64 n).wf=true):∃c:Nat,n=(c:Int)∧c<18446744073709551616:=by
 have h2:0≤n∧n≤18446744073709551615:=by simpa [Lit.wf,IntKind.min,IntKind.max,IntKind.signed,IntKind.bits] using h
 obtain⟨c,rfl⟩:=Int.eq_ofNat_of_zero_le h2.1
 exact⟨c,rfl,by omega⟩
theorem walkSfsRenames(q:Option Addr)(m cq:Nat)(l:List AX)(s:ByteArray)(hs:s.size≤maxLen)(u:ByteArray)(hu:u.size≤maxLen)(c:Int)(hc:(Lit.int .u64 c).wf=true)(w:World)(hlr:Rd w 6 (.slice q m cq) m ((l.map AX.c).flatten))(hmm:m≤maxLen)(hok:∀a∈l,a.ok w)(hmx:pa.Mx w) :
  Calls Tryz.prog 4 #[.slice q m cq,.string s,.string u,.int .u64 c] w (Rt w (.bool true)):=by
 obtain⟨k,rfl,hk⟩:=wf_u64R hc
 exact b5k w q m cq l hlr hmm hok s u hs hu k hk hmx
end fs
end Go.Proofs.YtiaapfijbidgnaaGreatDoor
