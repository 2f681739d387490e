/- What ViewBack wants, part 35. -/
import Derived.Test.YtjedjkjhodgidaaGreatDoorViewBackA
import Derived.Test.YtjedjkjhodgidaaGreatDoorViewBackB
import Derived.Test.YtjedjkjhodgidaaGreatDoorViewBackZG
import Derived.Test.YtjedjkjhodgidaaGreatDoorViewBackZH
import Derived.Shelf.Strings.BuilderF
set_option linter.unusedVariables false
set_option linter.unusedSimpArgs false
namespace Go.Proofs.YtjedjkjhodgidaaGreatDoor
namespace vw
set_option maxRecDepth 100000
open Go.ChangeShapes Go.WideShapes Go.ChangeAt Go.RowKit
open rows
open sec
open ly
open pa
open bld
open fs (Nd a1a a1q nodesC)
set_option maxHeartbeats 2000000 in
set_option maxRecDepth 100000 in
theorem writeStr(B b:Nat)(bs:List Value)(s:ByteArray)(w:World)(h:Lib.IsBuilderF 93 5 B b bs w)(hlen:bs.length+s.size≤140737488355328)(hBw:B≤w.heap.size) :
  Calls Tryz.prog 44 #[.pointer (some ⟨b,0,none⟩),.string s] w fun e w'=>e = .returned (.tuple #[.int .i64 s.size,.nilIface])∧(Lib.BuilderAtF 93 5 B b (.pointer (some ⟨b,0,none⟩)) (bs++Lib.strCells s) w'∧Below B w w'):=by
 obtain⟨i0,hi,hz0,hz1,hz2⟩:=info_parts infoByte
 go_enter Tryz.func44,Tryz.ntmps44
 go_wp2_with (go_at_call 96;refine(check_any B b bs _ h).mono ?_)
 rintro e w1 ⟨rfl,h1,hb1,hk1⟩
 obtain⟨hB,v,hbk,hown,hne⟩:=h1
 have c0:w1.cell? ⟨b,0,none⟩=some (.pointer (some ⟨b,0,none⟩)):=by rw[Lib.cell_of_heap hbk];rfl
 have c1:w1.cell? ⟨b,1,none⟩=some v:=by rw[Lib.cell_of_heap hbk];rfl
 go_wp2_with (at_builtin;refine Lib.wpList_append_own_stringF _ rfl _ _ 54 9 rfl B 5 i0 Tryz.underlying54 Tryz.underlying9 hi hz0 hz1 hz2 _ _ _ rfl hown s rfl ?c3 ?c4 ?c5 ?_)
 case c3=>unfold maxLen;omega
 case c4=>omega
 case c5=>have:=hb1.size;omega
 intro v' w2 hown' hgrow _
 have hlt:b<w1.heap.size:=by
  rcases Nat.lt_or_ge b w1.heap.size with h'|h'
  ·exact h'
  ·simp[Array.getElem?_eq_none h'] at hbk
 have hb2:w2.heap[b]? = some (.cells #[.pointer (some ⟨b,0,none⟩),v] 93 (0,0)):=by
  rw[hgrow.block b hlt (fun e=>hne e.symm)]
  exact hbk
 have d0:w2.cell? ⟨b,0,none⟩=some (.pointer (some ⟨b,0,none⟩)):=by rw[Lib.cell_of_heap hb2];rfl
 have d1:w2.cell? ⟨b,1,none⟩=some v:=by rw[Lib.cell_of_heap hb2];rfl
 have f1:w2.frozen? ⟨b,1,none⟩=false:=Lib.frozen_of_heap hb2 1
 obtain⟨ao,n',cap,rfl⟩:∃ao n' cap,v' = .slice ao n' cap:=by
  rcases hown'.2 with⟨hv,_⟩|⟨g,cap,cur,fz,hv,_⟩
  ·exact⟨_,_,_,hv⟩
  ·exact⟨_,_,_,hv⟩
 go_wp2
 go_ret2
 refine⟨rfl,?_,?_⟩
 ·exact Lib.BuilderAtF.put (T:=93) (e:=5) hB hb2 (bs':=bs++Lib.strCells s) (by simpa [Lib.strCells_length] using hown') neB
 ·exact(hb1.grown hgrow (by have:=hb1.size;omega) (fun k hk=>(hown.lt k hk).1)).setCell (p:=⟨b,1,none⟩) hB _
theorem b4n{l:List Nd}{i:Nat}(h:i<l.length):textL (l.take (i+1))=textL (l.take i)++lineL l[i]:=by
 rw[List.take_succ_eq_append_getElem h,b4h]
theorem b2c{x:Nd}(h:okN x=true):(lineL x).length≤1000:=by
 obtain⟨h1,h2,_⟩:=(a6j x).1 h
 have h3:=b3j h1
 have h4:=a4r x.data
 rw[lineL,bodyL]
 split<;>simp<;>omega
theorem a7z:∀(l:List Nd),(∀x∈l,okN x=true)→(textL l).length≤1000 * l.length
 | [],_=>by simp[textL]
 | x::l,h=>by
  have h1:=b2c (h x List.mem_cons_self)
  have h2:=a7z l fun y hy=>h y (List.mem_cons_of_mem _ hy)
  rw[textL,List.map_cons,List.flatten_cons,← textL,List.length_append,List.length_cons];omega
def showOk(l:List Nd):Bool:=l.all okN
def showS(l:List Nd):ByteArray:=if showOk l then strOfNums (textL l) else ByteArray.empty
theorem show_no{l:List Nd}{i:Nat}(h:i<l.length)(hk:okN l[i]=false):showOk l=false:=by
 rw[showOk,List.all_eq_false]
 exact⟨l[i],List.getElem_mem h,by rw[hk];simp⟩
theorem a9z(a b:ByteArray):Lib.strCells (a++b)=Lib.strCells a++Lib.strCells b:=by
 unfold Lib.strCells
 rw[ByteArray.data_append,Array.toList_append,List.map_append]
theorem b7k{B b:Nat}{bs:List Value}{w w':World}(h:Lib.IsBuilderF 93 5 B b bs w)(hb:Below w.heap.size w w'):Lib.IsBuilderF 93 5 B b bs w':=by
 have key:∀p,Lib.BuilderAtF 93 5 B b p bs w→Lib.BuilderAtF 93 5 B b p bs w':=by
  rintro p ⟨h1,v,h2,h3,h4⟩
  refine⟨h1,v,(hb.block b (Array.getElem?_eq_some_iff.1 h2).1).trans h2,⟨h3.1,?_⟩,h4⟩
  rcases h3.2 with h|⟨g,cap,cur,fz,hv,h5,h6,r⟩
  ·exact Or.inl h
  ·exact Or.inr ⟨g,cap,cur,fz,hv,h5,(hb.block g (Array.getElem?_eq_some_iff.1 h6).1).trans h6,r⟩
 exact h.imp (key _) (key _)
set_option maxRecDepth 100000 in
set_option maxHeartbeats 3200000 in
theorem a4c(p:Option Addr)(n c:Nat)(l:List Nd)(w:World)(hmx:Mx w)(hr:Rd w 3 (.slice p n c) n (nodesC l))(hn:n≤1000)(hz:∀x∈l,x.path.size≤100000∧x.data.size≤100000) :
  Calls Tryz.prog 16 #[.slice p n c] w (Rt w (.tuple #[.string (showS l),.bool (showOk l)])):=by
 have HR:=ι hr
 have HZ:=ι hz
 have HMX:=ι hmx
 have hl:l.length=n:=dsk.Rd.count fs.Nd.c hr (fun _ _=>rfl) (by decide)
 have HL:=ι hl
 have hni:(n:Int)≤1000:=by omega
 clear hr hz hl hmx
 have HI0:Hid (Lib.IsBuilderF 93 5 w.heap.size w.heap.size [] (w.alloc (.cells #[.pointer none,.slice none 0 0] 93))):=ι (Lib.IsBuilderF.of (Lib.fresh_isBuilder 93 5 w))
 have HB0:=ι (a0b (Below.refl w.heap.size w) (.cells #[.pointer none,.slice none 0 0] 93))
 go_enter Tryz.func16,Tryz.ntmps16
 go_upto_region 3 with fail
 obtain⟨w0,hw0⟩:∃v,w.alloc (.cells #[.pointer none,.slice none 0 0] 93)=v:=⟨_,rfl⟩
 rw[hw0] at HI0 HB0 ⊢
 clear hw0
 obtain⟨gb,hgb⟩:∃g,w.heap.size=g:=⟨_,rfl⟩
 rw[hgb] at HI0 ⊢
 have HGB:=ι hgb
 clear hgb
 go_loopw [9] (fun iv wr=>∃i:Nat,i≤n∧iv = .int .i64 (i:Int)∧Hid (∀x∈l.take i,okN x=true)∧Hid (Lib.IsBuilderF 93 5 gb gb (Lib.strCells (strOfNums (textL (l.take i)))) wr)∧Hid (Below w.heap.size w wr)) (fun iv _=>n-(intOf iv).toNat)
 case atStart=>exact⟨0,by omega,rfl,ι (fun x hx=>(nomatch hx)),HI0,HB0⟩
 case round =>
  clear HI0 HB0
  obtain⟨i,hi,rfl,HO,HI,HB⟩:=hrel
  have HM:=ι (HMX.out.later HB.out)
  by_cases hlt:i<n
  ·have hlti:(i:Int)<n:=by omega
   have hil:i<l.length:=by rw[HL.out];exact hlt
   obtain⟨b1,o1,rfl,hc1,hm1,hh1,hl1,HR1⟩:=dsk.Rd.chunk fs.Nd.c HR.out (fun _ _=>rfl) (by decide) hlt
   have HWR:=ι (Rd.rangeLater (HR1 i hil) hh1 HB.out)
   have hzx:=HZ.out _ (List.getElem_mem hil)
   have HT:=ι (b4n hil)
   have HNO:=ι (show_no hil)
   have HOK:Hid (okN l[i]=true→∀x∈l.take (i+1),okN x=true):=ι fun h x hx=>by
    rw[List.take_succ_eq_append_getElem hil] at hx
    rcases List.mem_append.1 hx with hx|hx
    ·exact HO.out x hx
    ·rw[List.mem_singleton.1 hx];exact h
   have HTL:=ι (a7z _ HO.out)
   have htl:(l.take i).length≤1000:=by rw[List.length_take];omega
   have HLL:Hid (okN l[i]=true→(lineL l[i]).length≤1000):=ι fun h=>b2c h
   generalize l[i]=x at *
   obtain⟨px,dx,bx⟩:=x
   simp only at hzx
   have e0:wr.cell? ⟨b1,o1+i * 3,none⟩=some (.string px):=by simpa using HWR.out 0 _ rfl
   have e1:wr.cell? ⟨b1,o1+i * 3+1,none⟩=some (.bool dx):=by simpa using HWR.out 1 _ rfl
   have e2:wr.cell? ⟨b1,o1+i * 3+2,none⟩=some (.string bx):=by simpa using HWR.out 2 _ rfl
   clear HR1 hl1
   go_upto_region 5 with(first|(refine a1q rfl (.tmp 11) rfl b1 (o1+i * 3) rfl ⟨px,dx,bx⟩ e0 e1 e2 ?_))
   have A3:=ι (a1a wr ⟨px,dx,bx⟩)
   have B3:=ι (a0b (Below.refl wr.heap.size wr) (.cells #[.string px,.bool dx,.string bx] 35))
   obtain⟨w3,hw3⟩:∃v,wr.alloc (.cells #[.string px,.bool dx,.string bx] 35)=v:=⟨_,rfl⟩
   simp only at A3
   rw[hw3] at A3 B3 ⊢
   clear hw3
   have c0:=A3.out.c0
   have c1:=A3.out.c1
   have c2:=A3.out.c2
   simp only at c0 c1 c2
   have HV:=ι (a7h ⟨px,dx,bx⟩ w3 (HM.out.later B3.out) hzx.1 hzx.2)
   have HLN:=ι fun w'=>b7p ⟨px,dx,bx⟩ w' hzx.1 hzx.2
   cases hk:okN ⟨px,dx,bx⟩ with
   | false =>
    rw[hk] at HV
    have hno:=HNO.out hk
    have HNB:=ι hno
    clear HNO HOK HLL HLN hk hno HT HTL
    go_wp2_with (first|(refine a1q rfl (.tmp 6) rfl wr.heap.size 0 rfl ⟨px,dx,bx⟩ c0 c1 c2 ?_)|(go_at_call 43;refine HV.out.mono ?_;rintro e w4 ⟨rfl,hb⟩;have B4:=ι (HB.out.trans ((a0a B3.out hb).mono HB.out.size));clear hb))
    go_ret2
    exact⟨by rw[showS,HNB.out];rfl,B4.out⟩
   | true =>
    rw[hk] at HV
    have HOK1:=ι (HOK.out hk)
    have HL1:=ι (HLL.out hk)
    clear HNO HOK HLL hk
    have hg3:wr.heap.size<w3.heap.size:=A3.out.lt
    go_upto_region 7 with(first|(refine a1q rfl (.tmp 6) rfl wr.heap.size 0 rfl ⟨px,dx,bx⟩ c0 c1 c2 ?_)|(go_at_call 43;refine HV.out.mono ?_;rintro e w4 ⟨rfl,hb⟩;have B4:=ι (a0a B3.out hb);have A4:=ι (A3.out.later hb);have c0:=A4.out.c0;have c1:=A4.out.c1;have c2:=A4.out.c2;simp only at c0 c1 c2;clear hb))
    go_wp2_with (first|(refine a1q rfl (.tmp 6) rfl wr.heap.size 0 rfl ⟨px,dx,bx⟩ c0 c1 c2 ?_)|(go_at_call 45;refine(HLN.out _).mono ?_;rintro e w5 ⟨rfl,hb⟩;have B5:=ι (a0a B4.out hb);clear hb)|(go_at_call 44;refine(writeStr gb gb _ _ _ (b7k HI.out B5.out) (by rw[Lib.strCells_length,strOfNums_size,strOfNums_size];have:=HTL.out;have:=HL1.out;omega) (by have:=HB.out.size;have:=B5.out.size;have:=HGB.out;omega)).mono ?_;rintro e w6 ⟨rfl,hbl,hb6⟩;have HI6:=ι hbl;have B6:=ι ((HB.out.trans (c:=w5) (B5.out.mono HB.out.size)).trans (c:=w6) (by rw[HGB.out];exact hb6));clear hbl hb6))
    exact⟨⟨i+1,by omega,by go_num,HOK1,ι (by rw[HT.out,← b7v,a9z];exact Or.inr HI6.out),B6⟩,by simp[intOf];omega⟩
  ·obtain rfl:i=n:=by omega
   have hok:showOk l=true:=by
    rw[showOk,List.all_eq_true]
    have:=HO.out
    rw[← HL.out,List.take_length] at this
    exact this
   have HI2:=ι HI.out
   rw[← HL.out,List.take_length,Lib.strCells_eq] at HI2
   have HOK:=ι hok
   go_wp2_with (go_at_call 46;refine(Tryz.Builder_String_any_f gb gb _ _ HI2.out (by have:=HB.out.size;have:=HGB.out;omega)).mono ?_;rintro e w2 ⟨rfl,_,hb⟩;have HB2:=ι (HB.out.trans (c:=w2) (by rw[HGB.out];exact hb));clear hb)
   go_ret2
   exact⟨by rw[showS,if_pos HOK.out,HOK.out];rfl,HB2.out⟩
end vw
namespace vw
set_option maxRecDepth 100000
open Go.ChangeShapes Go.WideShapes Go.ChangeAt Go.RowKit
open rows
open sec
open ly
open pa
open fs (Nd aggN nodesC)
instance instNd:DecidableEq Nd:=fun x y=>if h:x.path=y.path∧x.dir=y.dir∧x.data=y.data then isTrue (by obtain⟨a,b,c⟩:=x;obtain⟨d,e,f⟩:=y;obtain⟨rfl,rfl,rfl⟩:=h;rfl) else isFalse (fun e=>h (by subst e;exact⟨rfl,rfl,rfl⟩))
theorem nd_eq(x y:Nd):decide (x=y)=(decide (x.path=y.path) && (decide (x.dir=y.dir) && decide (x.data=y.data))):=by
 obtain⟨a,b,c⟩:=x
 obtain⟨d,e,f⟩:=y
 rw[Bool.eq_iff_iff]
 simp[and_assoc]
theorem b7g:(Tryz.prog.fieldsOf 35).toList.map (fun f=>(f.name,f.type,f.offset))=[("Path", 9,0),("Dir", 4,1),("Data", 9,2)]:=by kernel_rfl
set_option maxRecDepth 100000 in
theorem eqIn_nd(x y:Nd)(w:World):(Op.equalIn 10000 35 (aggN x) (aggN y)).run Tryz.prog w = .ok (decide (x=y)) w:=by
 have hs:Tryz.prog.stoodInHeld 35=false:=by kernel_rfl
 rw[show (10000:Nat)=9999+1 from rfl,run_equalIn_struct w 9999 _ _ _ Tryz.underlying35 hs,nd_eq]
 have hf:=b7g
 match hq:(Tryz.prog.fieldsOf 35).toList with
 | []=>rw[hq] at hf;simp at hf
 | [_]=>rw[hq] at hf;simp at hf
 | [_,_]=>rw[hq] at hf;simp at hf
 | [f,g,h] =>
  rw[hq] at hf
  simp only[List.map_cons,List.map_nil,List.cons.injEq,Prod.mk.injEq,and_true] at hf
  obtain⟨⟨n1,t1,o1⟩,⟨n2,t2,o2⟩,n3,t3,o3⟩:=hf
  rw[dsk.a0r 9999 _ _ f _ (by rw[n1];decide) w (a := .string x.path) (b := .string y.path) (r:=x.path.toList == y.path.toList) (by rw[t1,o1];exact a5c w _ 0 _ rfl) (by rw[t1,o1];exact a5c w _ 0 _ rfl) (by rw[t1];exact run_equalIn_string w 9998 _ _ _ Tryz.underlying9)]
  rw[dsk.a0r 9999 _ _ g _ (by rw[n2];decide) w (a := .bool x.dir) (b := .bool y.dir) (r:=x.dir == y.dir) (by rw[t2,o2];exact a8z w _ 1 _ rfl) (by rw[t2,o2];exact a8z w _ 1 _ rfl) (by rw[t2];exact run_equalIn_bool' w 9998 _ _ _ Tryz.underlying4)]
  rw[dsk.a0r 9999 _ _ h [] (by rw[n3];decide) w (a := .string x.data) (b := .string y.data) (r:=x.data.toList == y.data.toList) (by rw[t3,o3];exact a5c w _ 2 _ rfl) (by rw[t3,o3];exact a5c w _ 2 _ rfl) (by rw[t3];exact run_equalIn_string w 9998 _ _ _ Tryz.underlying9)]
  rw[fs.b6e,fs.b6e]
  by_cases e1:x.path=y.path
  ·by_cases e2:x.dir=y.dir
   ·by_cases e3:x.data=y.data
    ·simp[Op.eqFields,e1,e2,e3]
    ·simp[Op.eqFields,e1,e2,e3]
   ·simp[Op.eqFields,e1,e2]
  ·simp[Op.eqFields,e1]
 | _::_::_::_::_=>rw[hq] at hf;simp at hf
theorem b8o:Tryz.prog.eqGuardType Tryz.prog.depth 35=false:=by kernel_rfl
set_option maxRecDepth 100000 in
set_option maxHeartbeats 3200000 in
theorem b6o(p:Option Addr)(n c:Nat)(l:List Nd)(q:Option Addr)(m k:Nat)(r:List Nd)(w:World)(hr:Rd w 3 (.slice p n c) n (nodesC l))(hq:Rd w 3 (.slice q m k) m (nodesC r))(hn:n≤100000)(hm:m≤100000) :
  Calls Tryz.prog 13 #[.slice p n c,.slice q m k] w (Rt w (.bool (decide (l=r)))):=by
 have hl:l.length=n:=dsk.Rd.count fs.Nd.c hr (fun _ _=>rfl) (by decide)
 have hrl:r.length=m:=dsk.Rd.count fs.Nd.c hq (fun _ _=>rfl) (by decide)
 have HR:=ι hr
 have HQ:=ι hq
 have HL:=ι hl
 have HRL:=ι hrl
 have hni:(n:Int)≤100000:=by omega
 clear hr hq
 by_cases hnm:n=m
 ·subst hnm
  clear hl hrl
  go_enter Tryz.func13,Tryz.ntmps13
  go_upto_region 4 with fail
  go_loopw [5] (fun iv wr=>∃i:Nat,i≤n∧iv = .int .i64 (i:Int)∧Hid (l.take i=r.take i)∧Hid (Below w.heap.size w wr)) (fun iv _=>n-(intOf iv).toNat)
  case atStart=>exact⟨0,by omega,rfl,ι rfl,ι (Below.refl _ _)⟩
  case round =>
   obtain⟨i,hi,rfl,HE,HB⟩:=hrel
   by_cases hlt:i<n
   ·have hlti:(i:Int)<n:=by omega
    have hil:i<l.length:=by rw[HL.out];exact hlt
    have hir:i<r.length:=by rw[HRL.out];exact hlt
    obtain⟨b1,o1,rfl,hc1,hm1,hh1,hl1,HR1⟩:=dsk.Rd.chunk fs.Nd.c HR.out (fun _ _=>rfl) (by decide) hlt
    obtain⟨b2,o2,rfl,hc2,hm2,hh2,hl2,HR2⟩:=dsk.Rd.chunk fs.Nd.c HQ.out (fun _ _=>rfl) (by decide) hlt
    have HW1:=ι (Rd.rangeLater (HR1 i hil) hh1 HB.out)
    have HW2:=ι (Rd.rangeLater (HR2 i hir) hh2 HB.out)
    have HT:Hid (l[i]=r[i]→l.take (i+1)=r.take (i+1)):=ι fun h=>by rw[List.take_succ_eq_append_getElem hil,List.take_succ_eq_append_getElem hir,HE.out,h]
    have HN:Hid (l[i]≠r[i]→l≠r):=ι fun h e=>by subst e;exact h rfl
    generalize l[i]=x at *
    generalize r[i]=y at *
    clear HR1 HR2 hl1 hl2
    go_upto_region 6 with fail
    have EQ:=ι (eqIn_nd x y)
    obtain⟨px,dx,bx⟩:=x
    obtain⟨py,dy,by_⟩:=y
    have L1:Hid (∀w',Below wr.heap.size wr w'→w'.rangeAt b1 (o1+i * 3) (fs.Nd.c ⟨px,dx,bx⟩)):=ι fun w' hb=>Rd.rangeLater HW1.out (Nat.lt_of_lt_of_le hh1 HB.out.size) hb
    have L2:Hid (∀w',Below wr.heap.size wr w'→w'.rangeAt b2 (o2+i * 3) (fs.Nd.c ⟨py,dy,by_⟩)):=ι fun w' hb=>Rd.rangeLater HW2.out (Nat.lt_of_lt_of_le hh2 HB.out.size) hb
    refine wp_region_held_drew (S:=ext wr.drew) (by kernel_rfl) (Below.refl _ _) (fun hH0 => ?_)
    refine tk 0 rfl ?_
    refine tk 1 rfl ?_
    refine tk 2 rfl ?_
    refine tkv 3 rfl (Go.yieldsIf_load_mid (by rfl) 35 _ rfl b1 (o1+i * 3) rfl (fs.Nd.c ⟨px,dx,bx⟩) _ (fun w' hw=>L1.out w' (a0h hw)) Tryz.underlying35 rfl (by rw[fs.a1g];rfl)) ?_
    refine tk 4 rfl ?_
    refine tk 5 rfl ?_
    refine tk 6 rfl ?_
    refine tkv 7 rfl (Go.yieldsIf_load_mid (by rfl) 35 _ rfl b2 (o2+i * 3) rfl (fs.Nd.c ⟨py,dy,by_⟩) _ (fun w' hw=>L2.out w' (a0h hw)) Tryz.underlying35 rfl (by rw[fs.a1g];rfl)) ?_
    refine tkv 8 rfl (dsk.b3z (by rfl) 35 _ _ _ rfl #[.string px,.bool dx,.string bx] #[.string py,.bool dy,.string by_] (by rfl) (by rfl) b8o (decide ((⟨px,dx,bx⟩:Nd)=⟨py,dy,by_⟩)) EQ.out) ?_
    refine wpAnyH_done (by kernel_rfl) ?_ _
    have HB1:=ι (a2g HB.out 1)
    clear hH0
    by_cases hxy:(⟨px,dx,bx⟩:Nd)=⟨py,dy,by_⟩
    ·rw[decide_eq_true hxy]
     have HT1:=ι (HT.out hxy)
     clear hxy HT HN
     go_wp2_with fail
     exact⟨⟨i+1,by omega,by go_num,HT1,HB1⟩,by simp[intOf];omega⟩
    ·rw[decide_eq_false hxy]
     have HN1:=ι (HN.out hxy)
     clear hxy HT HN
     go_wp2_with fail
     go_ret
     exact⟨by rw[decide_eq_false HN1.out];rfl,HB1.out⟩
   ·obtain rfl:i=n:=by omega
    have he:l=r:=by
     have h:=HE.out
     rw[← HL.out,List.take_length,HL.out,← HRL.out,List.take_length] at h
     exact h
    have HE2:=ι he
    clear he
    go_wp2_with fail
    go_ret
    exact⟨by rw[decide_eq_true HE2.out];rfl,HB.out⟩
 ·have hne:l≠r:=fun h=>hnm (by rw[← hl,← hrl,h])
  have g0:((n:Int) != (m:Int))=true:=by simp;omega
  have HE:=ι hne
  clear hl hrl hne hnm
  go_enter Tryz.func13,Tryz.ntmps13
  go_wp2_with fail
  go_ret
  exact⟨by rw[decide_eq_false HE.out];rfl,Below.refl _ _⟩
end vw
end Go.Proofs.YtjedjkjhodgidaaGreatDoor
