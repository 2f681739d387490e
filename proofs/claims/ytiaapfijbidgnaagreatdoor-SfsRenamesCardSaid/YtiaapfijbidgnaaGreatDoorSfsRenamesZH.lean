/- What SfsRenames wants, part 34. -/
import Derived.Test.YtiaapfijbidgnaaGreatDoorSfsRenamesB
import Derived.Test.YtiaapfijbidgnaaGreatDoorSfsRenamesZG
import Derived.Lib.SlBytesConst
set_option linter.unusedVariables false
set_option linter.unusedSimpArgs false
namespace Go.Proofs.YtiaapfijbidgnaaGreatDoor
namespace fs
set_option maxRecDepth 100000
open Go.ChangeShapes Go.WideShapes Go.ChangeAt Go.RowKit
open rows
open sec
open dsk (InS St CA st0 a8a wrsC)
open ly
open pa
open lk
open al
theorem goodA:stA.good 10:=b1f (a5m a1g (Nat.le_of_eq a1p)) txA 1
theorem goodB:stB.good 20:=a7p goodA txA 0 [120,121] (by decide)
structure KnHas (FI:Value→World→(Nat→Prop)→Value→dsk.St→Prop):Prop where
 size:∀(d:Value) (w:World) (F:Nat→Prop) (f:Value),FI d w F f stB→Mx w→Calls Tryz.prog 53 #[f,.string txA] w (Rt w (.tuple #[.int .i64 2,.int .i64 0]))
 wait:∀(d:Value) (w:World) (F:Nat→Prop),CA w F d stB→Calls Tryz.prog 46 #[d] w fun e w'=>∃p c,e = .returned (.slice p 4 c)∧Rd w' 36 (.slice p 4 c) 4 (wrsC stB.wait)∧InS (fun x=>w.heap.size≤x) (.slice p 4 c)∧Below w.heap.size w w'
theorem rd_twoF(w:World)(e:TypeId)(fr:Nat×Nat)(a b:Value):Rd (w.alloc (.cells #[a,b] e fr)) 1 (.slice (some ⟨w.heap.size,0,none⟩) 2 2) 2 [a,b]:=by
 refine Or.inr ⟨w.heap.size,0,2,rfl,by omega,Nat.le_refl _,by unfold maxLen;omega,by simp,by rfl,fun i u hi => ?_⟩
 rw[World.cell?_alloc_mark,Nat.zero_add]
 simpa using hi
def KF(FI:Value→World→(Nat→Prop)→Value→dsk.St→Prop)(lo:Nat)(d f:Value)(st:dsk.St)(w:World):Prop:=∃F,FI d w F f st∧∀b,F b→lo≤b∧b<w.heap.size
theorem KF.later{FI:Value→World→(Nat→Prop)→Value→dsk.St→Prop}(C:∀d,SfsIs (FI d)){lo:Nat}{d f:Value}{st:dsk.St}{w w':World}(h:KF FI lo d f st w)(hb:Below w.heap.size w w'):KF FI lo d f st w':=by
 obtain⟨F,h1,h2⟩:=h
 exact⟨F,(C d).later h1 hb,fun b hF=>⟨(h2 b hF).1,Nat.lt_of_lt_of_le (h2 b hF).2 hb.size⟩⟩
theorem KF.done{FI:Value→World→(Nat→Prop)→Value→dsk.St→Prop}{lo:Nat}{d f:Value}{w w1 w':World}{F:Nat→Prop}{r:Int×dsk.St}{e:Ending}(hb:Below lo w w1)(hl:lo≤w.heap.size)(hF:∀b,F b→lo≤b∧b<w1.heap.size)(D:FDone (FI d) F f w1 r e w'){z:Int}(hz:r.1=z):e = .returned (.int .i64 z)∧KF FI lo d f r.2 w'∧Below lo w w':=by
 have s1:=hb.size
 have s2:=D.2.2.size
 refine⟨by rw[D.1,hz],⟨_,D.2.1,fun b h => ?_⟩,hb.trans (D.2.2.below (by omega) fun b h=>(hF b h).1)⟩
 rcases h with h|h
 ·have:=hF b h;omega
 ·omega
def KG(FI:Value→World→(Nat→Prop)→Value→dsk.St→Prop)(lo a b:Nat)(d f:Value)(st:dsk.St)(w:World):Prop:=∃F,FI d w F f st∧(∀x,F x→lo≤x)∧(∀x,F x→¬(a≤x∧x<b))∧b≤w.heap.size
theorem KG.later{FI:Value→World→(Nat→Prop)→Value→dsk.St→Prop}(C:∀d,SfsIs (FI d)){lo a b:Nat}{d f:Value}{st:dsk.St}{w w':World}(h:KG FI lo a b d f st w)(hb:Below w.heap.size w w'):KG FI lo a b d f st w':=by
 obtain⟨F,h1,h2,h3,h4⟩:=h
 exact⟨F,(C d).later h1 hb,h2,h3,Nat.le_trans h4 hb.size⟩
theorem KG.done{FI:Value→World→(Nat→Prop)→Value→dsk.St→Prop}{lo a b:Nat}{d f:Value}{w w1 w':World}{F:Nat→Prop}{r:Int×dsk.St}{e:Ending}(hb:Below lo w w1)(hl:lo≤w.heap.size)(hF:∀x,F x→lo≤x)(hA:∀x,F x→¬(a≤x∧x<b))(hB:b≤w1.heap.size)(D:FDone (FI d) F f w1 r e w'){z:Int}(hz:r.1=z) :
  e = .returned (.int .i64 z)∧KG FI lo a b d f r.2 w'∧Below lo w w'∧∀v n cs,Rd w1 36 v n cs→InS (fun x=>a≤x∧x<b) v→Rd w' 36 v n cs:=by
 have s1:=hb.size
 have s2:=D.2.2.size
 refine⟨by rw[D.1,hz],⟨_,D.2.1,fun x h => ?_,fun x h hh => ?_,by omega⟩,hb.trans (D.2.2.below (by omega) fun b h=>hF b h),fun v n cs hr hv=>dsk.Rd.kept hr hv (D.2.2.keeps fun k hk hF'=>hA k hF' hk)⟩
 ·rcases h with h|h
  ·exact hF x h
  ·omega
 ·rcases h with h|h
  ·exact hA x h hh
  ·omega
set_option maxRecDepth 100000 in
set_option maxHeartbeats 6400000 in
theorem c9l{FI:Value→World→(Nat→Prop)→Value→dsk.St→Prop}(C:∀d,SfsIs (FI d))(D:SfsHas FI)(K0:KnHas FI)(w:World)(hmx:Mx w) :
  Calls Tryz.prog 8 #[] w (Rt w (.bool true)):=by
 have HC:=ι C
 have HM:=ι fun w1 F d (h:CA w1 F d (st0 emptyImg))=>D.mount w1 F d (st0 emptyImg) 0 h (a5m a1g (Nat.le_of_eq a1p)) (by decide) c0i
 have HCD:=ι D.code
 have HKH:=ι K0
 have HMX:=ι hmx
 have HNU:=ι fun z w'=>c3q z w'
 have HCR:=ι fun d w1 f (h:KF FI w.heap.size d f (st0 emptyImg) w1) (hb:Below w.heap.size w w1)=>h.elim fun F hF=>((C d).create w1 F f (st0 emptyImg) 0 txA hF.1 (a5m a1g (Nat.le_of_eq a1p)) (by decide) (hmx.later hb) (by decide)).mono fun e w' hd=>KF.done hb (Nat.le_refl _) hF.2 hd d0u
 have HWR:=ι fun d w1 f p c (h:KF FI w.heap.size d f stA w1) (hb:Below w.heap.size w w1) w2 (hb2:Below w1.heap.size w1 w2) (hr:Rd w2 1 (.slice p 2 c) 2 [.int .u8 120,.int .u8 121]) (hin:InS (fun b=>w1.heap.size≤b) (.slice p 2 c))=>h.elim fun F hF=>((C d).write w2 F f stA 10 txA 0 p 2 c [120,121] ((C d).later hF.1 hb2) goodA (by decide) (hmx.later (a0b hb hb2)) (by decide) (WalkArith.wf_i64 (by omega)) hr (fun a m c' hv hm hh=>by have h1:=hin a m c' hv hm;have h2:=(hF.2 _ hh).2;omega) (by decide) (by decide)).mono fun e w' hd=>KF.done (a0b hb hb2) (Nat.le_refl _) (fun b h=>⟨(hF.2 b h).1,Nat.lt_of_lt_of_le (hF.2 b h).2 hb2.size⟩) hd d3q
 clear C D K0 hmx
 go_enter Tryz.func8,Tryz.ntmps8
 go_upto_region 5 with(first|(go_at_call 28;refine(b3d _).mono ?_;rintro e w3 ⟨pe,ce,rfl,hre,hb3⟩;have RE:=ι hre;have B3:=ι hb3;clear hre hb3)|(go_at_call 9;refine(a8a _ pe 65 ce emptyImg a1g RE.out (by decide) (by decide)).mono ?_;rintro e w4 ⟨ad,rfl,hc,hb⟩;have HCA:=ι hc;have B4:=ι (a0b B3.out hb);have B34:=ι hb;clear hc hb)|(go_at_call 11;refine(HM.out _ _ _ HCA.out).mono ?_;rintro e w5 ⟨af,rfl,hf,hb⟩;have HFI:=ι hf;have B5:=ι (a0b B4.out hb);have B45:=ι hb;clear hf hb)|(go_at_call 13;refine(HNU.out _ _).mono ?_;rintro e wn ⟨rfl,hw⟩;obtain rfl:=hw.symm))
 have K5:Hid (KF FI w.heap.size (.pointer (some ad)) (.pointer (some af)) (st0 emptyImg) w5):=ι ⟨_,HFI.out,fun b hb=>by
  have s3:=B3.out.size
  have s4:=B34.out.size
  have s5:=B45.out.size
  rcases hb with hb|hb<;>omega⟩
 clear HCA HFI RE B34
 go_upto_region 6 with(first|(go_at_call 51;refine(HCR.out _ _ _ K5.out B5.out).mono ?_;rintro e w6 ⟨rfl,hk,hb⟩;have K6:=ι hk;have B6:=ι hb;clear hk hb;have hcb:=Lib.run_convert_bytes_const (P:=Tryz.prog) w6 38 5 #[.int .u8 120,.int .u8 121] 2 2 d1l c6y)|(go_at_call 52;refine(HWR.out _ _ _ _ _ K6.out B6.out _ (a0a (Below.refl _ _) _) (rd_twoF _ _ _ _ _) (fun a m c hv hm=>by cases hv;exact Nat.le_refl _)).mono ?_;rintro e w7 ⟨rfl,hk,hb⟩;have K7:=ι hk;have B7:=ι hb;clear hk hb))
 have HRD:=ι fun d w1 f (h:KF FI w.heap.size d f stB w1) (hb:Below w.heap.size w w1)=>h.elim fun F hF=>HC.out d |>.read w1 F f stB 20 txA hF.1 goodB (by decide) (HMX.out.later hb) (by decide)
 rw[kn_read] at HRD
 have HSZ:=ι fun d w1 f (h:KF FI w.heap.size d f stB w1) (hb:Below w.heap.size w w1)=>h.elim fun F hF=>HKH.out.size d w1 F f hF.1 (HMX.out.later hb)
 have HWT:=ι fun d w1 f (h:KF FI w.heap.size d f stB w1)=>h.elim fun F hF=>HKH.out.wait d w1 F (HCD.out d w1 F f stB hF.1)
 go_upto_region 9 with(first|(go_at_call 31;refine(HRD.out _ _ _ K7.out B7.out).mono ?_;rintro e w8 ⟨pr,nr,cr,rfl,hn,hr,hb⟩;have hn2:nr=2:=hn;subst hn2;have R8:=ι hr;have K8:=ι (K7.out.later HC.out hb);have B8:=ι (a0b B7.out hb);clear hn hr hb)|(go_at_call 53;refine(HSZ.out _ _ _ K8.out B8.out).mono ?_;rintro e w9 ⟨rfl,hb⟩;have R9:=ι (R8.out.later hb);have K9:=ι (K8.out.later HC.out hb);have B9:=ι (a0b B8.out hb);clear hb)|(go_at_call 46;refine(HWT.out _ _ _ K9.out).mono ?_;rintro e w10 ⟨pw,cw,rfl,hr,hi,hb⟩;have IW:=ι hi;have B910:=ι hb;have RW:=ι hr;have R10:=ι (R9.out.later hb);have K10:=ι (K9.out.later HC.out hb);have B10:=ι (a0b B9.out hb);clear hr hi hb))
 have G10:Hid (KG FI w.heap.size w9.heap.size w10.heap.size (.pointer (some ad)) (.pointer (some af)) stB w10):=ι (K9.out.elim fun F hF=>⟨F,(HC.out _).later hF.1 B910.out,fun x h=>(hF.2 x h).1,fun x h hh=>by have:=(hF.2 x h).2;omega,Nat.le_refl _⟩)
 have I10:Hid (InS (fun x=>w9.heap.size≤x∧x<w10.heap.size) (.slice pw 4 cw)):=ι fun a m c hv hm=>⟨IW.out a m c hv hm,d0z RW.out a m c hv hm⟩
 have HEA:=ι fun w1 (h:KG FI w.heap.size w9.heap.size w10.heap.size (.pointer (some ad)) (.pointer (some af)) stB w1) (hb:Below w.heap.size w w1)=>h.elim fun F hF=>((HC.out _).exist w1 F _ stB 20 txA hF.1 goodB (by decide) (HMX.out.later hb) (by decide)).mono fun e w' (hd:e = .returned (.bool (decide ((lookV (nowL stB) (bys txA)).2=0)))∧Below w1.heap.size w1 w')=>(show e = .returned (.bool true)∧Below w1.heap.size w1 w' from⟨by rw[hd.1,decide_eq_true d2m],hd.2⟩)
 have HEB:=ι fun w1 (h:KG FI w.heap.size w9.heap.size w10.heap.size (.pointer (some ad)) (.pointer (some af)) stB w1) (hb:Below w.heap.size w w1)=>h.elim fun F hF=>((HC.out _).exist w1 F _ stB 20 txB hF.1 goodB (by decide) (HMX.out.later hb) (by decide)).mono fun e w' (hd:e = .returned (.bool (decide ((lookV (nowL stB) (bys txB)).2=0)))∧Below w1.heap.size w1 w')=>(show e = .returned (.bool false)∧Below w1.heap.size w1 w' from⟨by rw[hd.1,decide_eq_false kn_not],hd.2⟩)
 have HC2:=ι fun w1 (h:KG FI w.heap.size w9.heap.size w10.heap.size (.pointer (some ad)) (.pointer (some af)) stB w1) (hb:Below w.heap.size w w1)=>h.elim fun F hF=>((HC.out _).create w1 F _ stB 20 txA hF.1 goodB (by decide) (HMX.out.later hb) (by decide)).mono fun e w' hd=>KG.done hb (Nat.le_refl _) hF.2.1 hF.2.2.1 hF.2.2.2 hd d4z
 have HU:=ι fun w1 (h:KG FI w.heap.size w9.heap.size w10.heap.size (.pointer (some ad)) (.pointer (some af)) (makeV stB txA 1).2 w1) (hb:Below w.heap.size w w1)=>h.elim fun F hF=>((HC.out _).unlink w1 F _ (makeV stB txA 1).2 30 txC hF.1 (b1f goodB txA 1) (by decide) (HMX.out.later hb) (by decide)).mono fun e w' hd=>KG.done hb (Nat.le_refl _) hF.2.1 hF.2.2.1 hF.2.2.2 hd d0i
 have hcv:=a6k R10.out (by decide)
 rw[show strOfNums [120,121]={ data := #[120,121] } by decide] at hcv
 have hw3:(wrsC stB.wait)[108]? = some (.int .i64 2):=by kernel_rfl
 obtain⟨bw,ow,cap,hvw,_,hc4,hcm,hbw,_,_⟩:=RW.out.resolve_left (fun⟨_,_,_,h0,_⟩=>by omega)
 cases hvw
 have HCL:Hid (∀w',Rd w' 36 (.slice (some ⟨bw,ow,none⟩) 4 cw) 4 (wrsC stB.wait)→w'.cell? ⟨bw,ow+3 * 36,none⟩=some (.int .i64 2)):=ι (fun w' h=>by
  obtain⟨b',o',c',hv',_,_,_,_,_,h5⟩:=h.resolve_left (fun⟨_,_,_,h0,_⟩=>by omega)
  cases hv'
  exact h5 108 _ hw3)
 clear hw3 hbw
 go_wp2_with (first|(go_at_call 13;refine(HNU.out _ _).mono ?_;rintro e wn ⟨rfl,hw⟩;obtain rfl:=hw.symm)|(go_at_call 54;refine(HEB.out _ G11.out B11.out).mono ?_;rintro e w12 ⟨rfl,hb⟩;have G12:=ι (G11.out.later HC.out hb);have R12:=ι (R11.out.later hb);have B12:=ι (a0b B11.out hb);clear hb)|(go_at_call 54;refine(HEA.out _ G10.out B10.out).mono ?_;rintro e w11 ⟨rfl,hb⟩;have G11:=ι (G10.out.later HC.out hb);have R11:=ι (RW.out.later hb);have B11:=ι (a0b B10.out hb);clear hb)|(go_at_call 51;refine(HC2.out _ G12.out B12.out).mono ?_;rintro e w13 ⟨rfl,hg,hb,hk⟩;have G13:=ι hg;have R13:=ι (hk _ _ _ R12.out I10.out);have B13:=ι hb;clear hg hb hk)|(go_at_call 55;refine(HU.out _ G13.out B13.out).mono ?_;rintro e w14 ⟨rfl,hg,hb,hk⟩;have hcl:=HCL.out _ (hk _ _ _ R13.out I10.out);have B14:=ι hb;clear hg hb hk))
 go_ret
 exact⟨rfl,B14.out⟩
end fs
end Go.Proofs.YtiaapfijbidgnaaGreatDoor
