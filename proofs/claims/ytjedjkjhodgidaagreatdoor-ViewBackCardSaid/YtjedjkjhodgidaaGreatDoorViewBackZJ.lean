/- What ViewBack wants, part 36. -/
import Derived.Test.YtjedjkjhodgidaaGreatDoorViewBackB
import Derived.Test.YtjedjkjhodgidaaGreatDoorViewBackD
import Derived.Test.YtjedjkjhodgidaaGreatDoorViewBackE
import Derived.Test.YtjedjkjhodgidaaGreatDoorViewBackM
import Derived.Test.YtjedjkjhodgidaaGreatDoorViewBackQ
import Derived.Test.YtjedjkjhodgidaaGreatDoorViewBackU
import Derived.Test.YtjedjkjhodgidaaGreatDoorViewBackV
import Derived.Test.YtjedjkjhodgidaaGreatDoorViewBackW
import Derived.Test.YtjedjkjhodgidaaGreatDoorViewBackZD
import Derived.Test.YtjedjkjhodgidaaGreatDoorViewBackZE
import Derived.Test.YtjedjkjhodgidaaGreatDoorViewBackZI
import Derived.Lib.IndexBytes
import Derived.Lib.IndexMore
set_option linter.unusedVariables false
set_option linter.unusedSimpArgs false
namespace Go.Proofs.YtjedjkjhodgidaaGreatDoor
namespace vw
set_option maxRecDepth 100000
open Go.ChangeShapes Go.WideShapes Go.ChangeAt Go.RowKit
open rows
open sec
open ly
open pa
open lk
open fs (Nd nodesC a0z a1q)
open dsk (Wr Wr.ok Wr.c wrsC elem_wrs a1k a1r)
theorem b4b(d:Value)(ss:List (List Int))(w:World)(hd:Dk w d ss) :
  Calls Tryz.prog 9 #[d] w fun e w'=>∃q c,e = .returned (.tuple #[.slice q (treeV ss).length c,.bool (wholeB ss)])∧Below w.heap.size w w'∧Rd w' 3 (.slice q (treeV ss).length c) (treeV ss).length (nodesC (treeV ss)):=by
 obtain⟨p,rfl⟩:=b6z hd
 refine(b5h p ss w hd).mono ?_
 rintro e w' ⟨q,n,c,rfl,hb,ho⟩
 have hr:=ho.rd
 have hl:(treeV ss).length=n:=dsk.Rd.count fs.Nd.c hr (fun x hx=>rfl) (by decide)
 rw[hl]
 exact⟨q,c,rfl,hb,hr⟩
def vkA:List Int:=[1,0,2,1,0,0,0,0,0,0,0,0,0,0,0,0,97]++List.replicate 15 0
def vkB:List Int:=[2]++List.replicate 31 0
def vk1:Wr:=⟨17,vkA,0,0,0⟩
def vk2:Wr:=⟨3,vkB,0,0,0⟩
def vks:List Wr:=[vk1,vk2]
def vkImg:List (List Int):=withL emptyImg vks
theorem vks_ok:∀x∈vks,x.ok:=by
 intro x hx
 rcases List.mem_cons.1 hx with rfl|hx
 ·exact⟨⟨by decide,by decide⟩,WalkArith.wf_i64 (by decide),WalkArith.wf_i64 (by decide),WalkArith.wf_i64 (by decide),WalkArith.wf_i64 (by decide)⟩
 ·rw[List.mem_singleton.1 hx];exact⟨⟨by decide,by decide⟩,WalkArith.wf_i64 (by decide),WalkArith.wf_i64 (by decide),WalkArith.wf_i64 (by decide),WalkArith.wf_i64 (by decide)⟩
def vkN:Nd:=⟨{ data := #[47,97] },true,{ data := #[] }⟩
def vkM:Nd:=⟨{ data := #[47,98] },false,{ data := #[120,7] }⟩
theorem vk_tree:treeV vkImg=[vkN]:=by kernel_rfl
theorem b9j:wholeB vkImg=true:=by kernel_rfl
theorem vk_show:showS [vkM]={ data := #[47,98,32,34,120,92,48,55,34,10] }:=by kernel_rfl
theorem vk_ok:showOk [vkM]=true:=by kernel_rfl
theorem b8i{ops:Array Oper}{rest:List Oper}{o:Oper}{a:Act}{w:World}{Q:Exit→Act→World→Prop}(hgd:o.guard=none)(x y:Operand)(ho:o.op = .buildSlice 23 2 #[(0,x),(1,y)])
  (hx:a.eval x = .agg vk1.c.toArray) (hy:a.eval y = .agg vk2.c.toArray) (h:wpList Tryz.prog ops Q rest (a.put o.dst (.slice (some ⟨w.heap.size,0,none⟩) 2 2)) (w.alloc (.cells (wrsC vks).toArray 78))):wpList Tryz.prog ops Q (o::rest) a w:=by
 obtain⟨ie,hi,hz0,hz1,hz2⟩:=info_parts elem_wrs.info
 refine wpList_plain hgd fun K hK=>wp_buildSlice 23 78 2 #[(0,x),(1,y)] ho (wrsC vks).toArray ie _ elem_wrs.und hi hz0 (by rw[hz1];omega) (by rw[hz1];omega) ?_ (hK _ _ h)
 rw[hz1]
 simp only[List.map_toArray,List.map_cons,List.map_nil,hx,hy]
 kernel_rfl
theorem vks_rd(w:World):Rd (w.alloc (.cells (wrsC vks).toArray 78)) 36 (.slice (some ⟨w.heap.size,0,none⟩) 2 2) 2 (wrsC vks):=by
 refine Or.inr ⟨w.heap.size,0,2,rfl,by omega,Nat.le_refl _,by unfold maxLen;omega,by simp,by kernel_rfl,fun i u hi => ?_⟩
 rw[Nat.zero_add,World.cell?_alloc_new]
 simpa using hi
theorem row_nd{w:World}{q:Option Addr}{n c:Nat}{L:List Nd}(h:Rd w 3 (.slice q n c) n (nodesC L)){j:Nat}(hj:j<n)(hl:L.length=n) :
  ∃b o,q=some ⟨b,o,none⟩∧w.cell? ⟨b,o+j * 3,none⟩=some (.string (L[j]'(by omega)).path)∧w.cell? ⟨b,o+j * 3+1,none⟩=some (.bool (L[j]'(by omega)).dir)∧w.cell? ⟨b,o+j * 3+2,none⟩=some (.string (L[j]'(by omega)).data)∧b<w.heap.size:=by
 obtain⟨b1,o1,rfl,hc1,hmm1,hh1,hl1,HR1⟩:=dsk.Rd.chunk fs.Nd.c h (fun x hx=>rfl) (by decide) hj
 have hg:=HR1 j (by omega)
 exact⟨b1,o1,rfl,by simpa using hg 0 _ rfl,hg 1 _ rfl,hg 2 _ rfl,hh1⟩
set_option maxRecDepth 100000 in
set_option maxHeartbeats 3200000 in
theorem knows14(w:World)(hmx:Mx w):Calls Tryz.prog 8 #[] w (Rt w (.bool true)):=by
 have HMX:=ι hmx
 have KT:=ι fun w' d (hd:Dk w' d vkImg)=>by
  have h:=b4b d vkImg w' hd
  rw[vk_tree,b9j] at h
  exact(show Calls Tryz.prog 9 #[d] w' fun e w''=>∃q c,e = .returned (.tuple #[.slice q 1 c,.bool true])∧Below w'.heap.size w' w''∧Rd w'' 3 (.slice q 1 c) 1 (nodesC [vkN]) from h)
 have KS:=ι fun w' q c (hm:Mx w') (hr:Rd w' 3 (.slice q 1 c) 1 (nodesC [vkM]))=>by
  have h:=a4c q 1 c [vkM] w' hm hr (by omega) (fun x hx=>by rw[List.mem_singleton.1 hx];exact⟨by decide,by decide⟩)
  rw[vk_show,vk_ok] at h
  exact h
 clear hmx
 go_enter Tryz.func8,Tryz.ntmps8
 go_wp2_with (first
  | (go_at_call 30;refine(b3v _).mono ?_;rintro e w1 ⟨p1,c1,rfl,hr,hb⟩;have B1:=ι (show Below w.heap.size w w1 from hb);have R1:=ι hr;clear hb hr)
  | (refine wpList_buildTo rfl 74 #[(0,.const (.int .u8 1)),(1,.const (.int .u8 0)),(2,.const (.int .u8 2)),(3,.const (.int .u8 1)),(16,.const (.int .u8 97))] rfl (some 7) rfl (u8s vkA).toArray (by kernel_rfl) ?_)
  | (refine wpList_buildTo rfl 78 #[(0,.const (.int .i64 17)),(1,.tmp 7)] rfl (some 8) rfl vk1.c.toArray (by kernel_rfl) ?_)
  | (refine wpList_buildTo rfl 74 #[(0,.const (.int .u8 2))] rfl (some 9) rfl (u8s vkB).toArray (by kernel_rfl) ?_)
  | (refine wpList_buildTo rfl 78 #[(0,.const (.int .i64 3)),(1,.tmp 9)] rfl (some 10) rfl vk2.c.toArray (by kernel_rfl) ?_)
  | (refine b8i rfl (.tmp 8) (.tmp 10) rfl rfl rfl ?_)
  | (go_at_call 10;refine(c0l p1 65 c1 emptyImg _ 2 2 vks _ (R1.out.later (a0b (Below.refl _ _) _)) a4f (by omega) (vks_rd _) vks_ok (by omega)).mono ?_;rintro e w2 ⟨d,rfl,hd,hb⟩;have B2:=ι (a0a B1.out (a0a (a0b (Below.refl _ _) _) hb));have D2:Hid (Dk w2 d vkImg):=ι hd;clear hb hd)
  | (go_at_call 9;refine(KT.out _ _ D2.out).mono ?_;rintro e w3 ⟨q3,c3,rfl,hb,hr⟩;have B3:=ι (a0a B2.out hb);have R3:=ι hr;clear hb hr)
  | (refine a1k a0z (by decide) rfl (.tmp 19) rfl vkM.c rfl rfl ?_)
  | (go_at_call 16;refine(KS.out _ _ _ (HMX.out.later (a0a B3.out (a0b (Below.refl _ _) _))) (a1r _ _ _ _ rfl)).mono ?_;rintro e w4 ⟨rfl,hb⟩;have hb4:=a0a (a0b (Below.refl w3.heap.size w3) _) hb;have B4:=ι (a0a B3.out hb4);obtain⟨b4,o4,hq4,x0,x1,x2,_⟩:=row_nd (R3.out.later hb4) (j:=0) (by decide) rfl;subst hq4;have y0:w4.cell? ⟨b4,o4,none⟩=some (.string { data := #[47,97] }):=x0;have y1:w4.cell? ⟨b4,o4+1,none⟩=some (.bool true):=x1;have y2:w4.cell? ⟨b4,o4+2,none⟩=some (.string { data := #[] }):=x2;clear hb hb4 x0 x1 x2)
  | (refine a1q rfl (.tmp 32) rfl b4 o4 rfl vkN y0 y1 y2 ?_))
 go_ret
 exact⟨rfl,B4.out⟩
end vw
namespace vw
set_option maxRecDepth 100000
open Go.ChangeShapes Go.WideShapes Go.ChangeAt Go.RowKit
open rows
open sec
open ly
open rng
attribute [local go_sem] Oper.semAt_some
theorem a8g:∀(l:List UInt8) (c:UInt8),Lib.indexByte l c=if (l.takeWhile fun x=>x != c).length<l.length then (((l.takeWhile fun x=>x != c).length:Nat):Int) else -1
 | [],c=>rfl
 | b::l,c=>by
  have ih:=a8g l c
  have hu:Lib.indexByte (b::l) c=if (b == c)=true then 0 else if (Lib.indexByte l c == -1)=true then -1 else Lib.indexByte l c+1:=rfl
  rw[hu,ih,List.takeWhile_cons]
  by_cases h:b=c
  ·subst h
   simp
  ·have h1:(b == c)=false:=beq_eq_false_iff_ne.2 h
   have h2:(b != c)=true:=bne_iff_ne.2 h
   rw[h1,h2]
   simp only[Bool.false_eq_true,if_false,if_true,List.length_cons]
   generalize (l.takeWhile fun x=>x != c).length=a
   by_cases h3:a<l.length
   ·rw[if_pos h3,if_neg (show ¬(((a:Nat):Int) == -1)=true by rw[beq_iff_eq];omega),if_pos (show a+1<l.length+1 by omega)]
    omega
   ·rw[if_neg h3,if_pos (show ((-1:Int) == -1)=true from rfl),if_neg (show ¬a+1<l.length+1 by omega)]
theorem cut_len(s:ByteArray)(c:UInt8):(cutAt (c.toNat:Int) (bys s)).length=(s.data.toList.takeWhile fun x=>x != c).length:=by
 unfold cutAt bys
 rw[List.takeWhile_map,List.length_map]
 congr 2
 funext x
 simp only[Function.comp]
 rw[Bool.eq_iff_iff,bne_iff_ne,bne_iff_ne]
 constructor
 ·intro h e;subst e;exact h rfl
 ·intro h e;exact h (UInt8.toNat_inj.1 (by omega))
theorem idx_cut(s:ByteArray)(c:UInt8):Lib.indexByte s.data.toList c=if (cutAt (c.toNat:Int) (bys s)).length<s.size then (((cutAt (c.toNat:Int) (bys s)).length:Nat):Int) else -1:=by
 rw[a8g,cut_len]
 rfl
def lineN(s:ByteArray):Nat:=if (cutAt 10 (bys s)).length<s.size then (cutAt 10 (bys s)).length+1 else s.size
theorem a5h(s:ByteArray):lineN s≤s.size:=by unfold lineN;split<;>omega
theorem a5z{s:ByteArray}(h:0<s.size):0<lineN s:=by unfold lineN;split<;>omega
def linesF:Nat→ByteArray→List ByteArray
 | 0,_=>[]
 | f+1,s=>if s.size=0 then [] else s.extract 0 (lineN s)::linesF f (s.extract (lineN s) s.size)
def linesB(s:ByteArray):List ByteArray:=linesF s.size s
theorem a5p:∀(f:Nat) (s:ByteArray),s.size≤f→∀g,linesF (f+g) s=linesF f s
 | 0,s,h,g=>by
  cases g with
  | zero=>rfl
  | succ g =>
   show (if s.size=0 then [] else s.extract 0 (lineN s)::linesF (0+g) (s.extract (lineN s) s.size))=[]
   rw[if_pos (by omega)]
 | f+1,s,h,g=>by
  rw[show f+1+g=(f+g)+1 by omega,linesF,linesF]
  by_cases h0:s.size=0
  ·rw[if_pos h0,if_pos h0]
  ·rw[if_neg h0,if_neg h0,a5p f _ (by rw[ByteArray.size_extract];have:=a5z (s:=s) (by omega);have:=a5h s;omega) g]
theorem b0d{s:ByteArray}(h:s.size=0):linesB s=[]:=by rw[linesB,h];rfl
theorem a3f{s:ByteArray}(h:0<s.size):linesB s=s.extract 0 (lineN s)::linesB (s.extract (lineN s) s.size):=by
 obtain⟨f,hf⟩:∃f,s.size=f+1:=⟨s.size-1,by omega⟩
 have h1:=a5z h
 have h2:=a5h s
 have hz:(s.extract (lineN s) s.size).size=s.size-lineN s:=by rw[ByteArray.size_extract];omega
 have e1:linesB s=s.extract 0 (lineN s)::linesF f (s.extract (lineN s) s.size):=by
  unfold linesB
  conv=>lhs;rw[hf]
  rw[linesF,if_neg (by omega)]
 rw[e1]
 congr 1
 have e2:=a5p (s.size-lineN s) (s.extract (lineN s) s.size) (by omega) (lineN s-1)
 rw[show (s.size-lineN s)+(lineN s-1)=f by omega] at e2
 rw[e2,linesB,hz]
theorem a8s(s:ByteArray):s.extract 0 s.size=s:=by
 apply a1p
 have:=a5e s (n:=0) (by omega)
 rw[this,List.drop_zero]
theorem b1z(s:ByteArray):s.extract s.size s.size=⟨#[]⟩:=by
 apply a1p
 rw[a5e s (Nat.le_refl _),List.drop_eq_nil_of_le (by rw[a0d];omega)]
 rfl
set_option maxRecDepth 100000 in
theorem b4j(s:ByteArray)(w:World):Calls Tryz.prog 49 #[.string s] w fun e w'=>e = .returned (.func (.func 98) #[] #[.pointer (some ⟨w.heap.size,0,none⟩)])∧w'=w.alloc (.cells #[.string s] 9):=by
 go_enter Tryz.func49,Tryz.ntmps49
 go_wp2
 go_ret
 exact⟨rfl,rfl⟩
theorem b3b{soft:Obj→Prop}{B bs:Nat}{w:World}{v0:Value}(h:Go.Boxed w bs 9 v0)(hs:∀v,¬soft (.cells #[v] 9 (0,0)))(v:Value):CalmH (fun k=>k=bs) soft B w (w.setCell ⟨bs,0,none⟩ v):=by
 have e:w.setCell ⟨bs,0,none⟩ v=w.setRow bs #[v]:=setCell_eq_setRow w bs 0 #[v0] 9 (0,0) v h
 rw[e]
 refine⟨rfl,rfl,rfl,by simp[World.setRow],fun k o hk ho => ?_⟩
 have hne:k≠bs:=by
  rcases ho with ho|ho
  ·exact ho.2
  ·rintro rfl
   have:=h.symm.trans hk
   cases this
   exact hs _ ho
 exact(setRow_other w bs k _ hne).trans hk
theorem b6f{hole:Nat→Prop}{soft:Obj→Prop}{B:Nat}{a b:World}(h:CalmH hole soft B a b):CalmH hole soft B a b.drew:=⟨h.os,h.tape,h.output,h.size,h.block⟩
set_option maxRecDepth 100000 in
set_option maxHeartbeats 4000000 in
theorem b6s(soft:Obj→Prop)(s:ByteArray)(hs:s.size≤100000)(bs:Nat)(m:Nat→Obj→Prop)(w:World)(hbox:Go.Boxed w bs 9 (.string s))(hZd:∀v,¬m bs (.cells #[v] 9 (0,0)))(hsoft:∀v,¬soft (.cells #[v] 9 (0,0))) :
  SeqH Tryz.prog 98 #[.pointer (some ⟨bs,0,none⟩)] (fun x:ByteArray => #[.string x]) (fun k=>k=bs) soft m (fun ys=>ys=linesB s) (fun pre=>pre <+: linesB s) w:=by
 intro l J Jx W hW _ hJ hJx hY h0
 have HJ:=ι hJ
 have HY:=ι hY
 have HZD:=ι hZd
 have HX0:Hid (Go.Boxed W bs 9 (.string s)):=ι ((hW.block _ hbox.lt).trans hbox)
 have H0:=ι h0
 have HSO:=ι hsoft
 have HIX:=ι fun(r:ByteArray) w'=>Tryz.strings_IndexByte r 10 w'
 clear hJ hY hZd hW hbox h0 hJx hsoft
 refine(callsIn_wide (n:=10)).1 (callsIn_of_wp Tryz.func98 rfl trivial ?_ rfl)
 simp only[Tryz.ntmps98,List.size_toArray,List.length_cons,List.length_nil,Nat.reduceAdd,Nat.reduceSub,Array.replicate_succ,Array.replicate_zero,List.push_toArray,List.append_toArray,List.nil_append,List.cons_append]
 gi_wp2
 gi_loopw [3] (fun kv wr=>∃(pre:List ByteArray) (r:ByteArray),Hid (linesB s=pre++linesB r)∧Hid (J pre wr)∧Hid (Go.Boxed wr bs 9 (.string r))∧r.size≤s.size∧Hid (W.heap.size≤wr.heap.size))
  (fun kv wr=>match wr.cell? ⟨bs,0,none⟩ with|some (.string r)=>r.size|_=>0)
 case atStart=>exact⟨[],s,ι rfl,H0,HX0,Nat.le_refl _,ι (Nat.le_refl _)⟩
 case round =>
  obtain⟨pre,r,HL,HJS,HX,hrs,HS⟩:=hrel
  have hri:(r.size:Int)≤100000:=by omega
  have cd:=HX.out.cell
  have fd:=HX.out.frozen
  have HIr:=ι fun w'=>HIX.out r w'
  rw[show (10:Int).toNat.toUInt8=(10:UInt8) from rfl,idx_cut r 10] at HIr
  by_cases h0:0<r.size
  ·have h0i:(0:Int)<r.size:=by omega
   have HL1:Hid (linesB s=pre++[r.extract 0 (lineN r)]++linesB (r.extract (lineN r) r.size)):=ι (by rw[HL.out,a3f h0,List.append_assoc];rfl)
   have hn1:=a5z h0
   have hn2:=a5h r
   have HP:Hid (pre++[r.extract 0 (lineN r)] <+: linesB s):=ι (by rw[HL1.out];exact List.prefix_append _ _)
   have HZ1:Hid ((r.extract (lineN r) r.size).size<r.size):=ι (by rw[ByteArray.size_extract];omega)
   have HYk:=ι fun W1 hj hz=>a4b 9 (HY.out pre (r.extract 0 (lineN r)) W1 hj hz HP.out)
   by_cases hc:(cutAt 10 (bys r)).length<r.size
   ·have hln:lineN r=(cutAt 10 (bys r)).length+1:=by rw[lineN,if_pos hc]
    change Hid (∀w',Calls Tryz.prog 94 #[.string r,.int .u8 10] w' fun e w''=>e = .returned (.int .i64 (if (cutAt 10 (bys r)).length<r.size then (((cutAt 10 (bys r)).length:Nat):Int) else -1))∧w''=w') at HIr
    rw[if_pos hc] at HIr
    rw[hln] at HYk HZ1 HL1 HP hn2
    generalize (cutAt 10 (bys r)).length=k at *
    have hki:(k:Int)+1≤r.size:=by omega
    clear hc hln hn1 hn2
    gi_wp2_with (refine⟨trivial,?_⟩;gi_at_call 94;refine(callsIn_wide.2 (HIr.out _)).mono ?_;rintro e w2 ⟨rfl,hw⟩;obtain rfl:=hw.symm)
    have HCD:=ι cd
    gi_region
    obtain⟨W2,hW2⟩:∃v,(wr.setCell ⟨bs,0,none⟩ (.string (r.extract (k+1) r.size))).drew=v:=⟨_,rfl⟩
    have HX2:Hid (Go.Boxed W2 bs 9 (.string (r.extract (k+1) r.size))):=ι (by rw[← hW2];exact dsk.a0f (i:=0) HX.out _)
    have HC2:Hid (CalmH (fun k=>k=bs) soft W.heap.size wr W2):=ι (by rw[← hW2];exact b6f (b3b HX.out HSO.out _))
    have HS2:Hid (W.heap.size≤W2.heap.size):=ι (Nat.le_trans HS.out HC2.out.size)
    have HJ2:=ι (HJ.out _ _ _ HJS.out HC2.out)
    rw[hW2]
    clear hW2 cd fd
    obtain⟨fn,tmps,assign,body,hy,hR⟩:=HYk.out W2 HJ2.out HS2.out
    replace hy:(Instr.yield l #[.string (r.extract 0 (k+1))]).run Tryz.prog W2 = .ok (.round l fn tmps assign body) W2:=hy
    gi_wp2
    refine hR.mono ?_
    rintro e W3 (⟨rfl,hJ3,hT3⟩|⟨rfl,hJx3,hT3⟩)
    ·have HJ3:=ι hJ3
     have HX3:Hid (Go.Boxed W3 bs 9 (.string (r.extract (k+1) r.size))):=ι (hT3.keep _ _ HX2.out (HZD.out _))
     have HS3:Hid (W.heap.size≤W3.heap.size):=ι (Nat.le_trans HS2.out hT3.size)
     have cd3:=HX3.out.cell
     clear hy hR hJ3 hT3
     gi_wp2
     go_roundw
     case rel=>exact⟨_,r.extract (k+1) r.size,HL1,HJ3,HX3,by have:=HZ1.out;omega,HS3⟩
     case measure=>rw[HCD.out,cd3];exact HZ1.out
    ·have HJX3:=ι hJx3
     clear hy hR hJx3 hT3
     gi_wp2
     refine bodyPost_ret (results_none rfl _ _ _) rfl ?_
     exact⟨⟨_,rfl⟩,.inr ⟨_,HP.out,HJX3.out⟩⟩
   ·have hln:lineN r=r.size:=by rw[lineN,if_neg hc]
    change Hid (∀w',Calls Tryz.prog 94 #[.string r,.int .u8 10] w' fun e w''=>e = .returned (.int .i64 (if (cutAt 10 (bys r)).length<r.size then (((cutAt 10 (bys r)).length:Nat):Int) else -1))∧w''=w') at HIr
    rw[if_neg hc] at HIr
    rw[hln,a8s] at HYk
    rw[hln,a8s,b1z] at HL1
    rw[hln,b1z] at HZ1
    rw[hln,a8s] at HP
    clear hc hln hn1 hn2
    have HCD:=ι cd
    gi_upto_region 6 with(refine⟨trivial,?_⟩;gi_at_call 94;refine(callsIn_wide.2 (HIr.out _)).mono ?_;rintro e w2 ⟨rfl,hw⟩;obtain rfl:=hw.symm)
    obtain⟨W2,hW2⟩:∃v,wr.setCell ⟨bs,0,none⟩ (.string { data := #[] })=v:=⟨_,rfl⟩
    have HX2:Hid (Go.Boxed W2 bs 9 (.string ({ data := #[] }))):=ι (by rw[← hW2];exact dsk.a0f (i:=0) HX.out _)
    have HC2:Hid (CalmH (fun k=>k=bs) soft W.heap.size wr W2):=ι (by rw[← hW2];exact b3b HX.out HSO.out _)
    have HS2:Hid (W.heap.size≤W2.heap.size):=ι (Nat.le_trans HS.out HC2.out.size)
    have HJ2:=ι (HJ.out _ _ _ HJS.out HC2.out)
    rw[hW2]
    clear hW2 cd fd
    obtain⟨fn,tmps,assign,body,hy,hR⟩:=HYk.out W2 HJ2.out HS2.out
    replace hy:(Instr.yield l #[.string (r)]).run Tryz.prog W2 = .ok (.round l fn tmps assign body) W2:=hy
    gi_wp2
    refine hR.mono ?_
    rintro e W3 (⟨rfl,hJ3,hT3⟩|⟨rfl,hJx3,hT3⟩)
    ·have HJ3:=ι hJ3
     have HX3:Hid (Go.Boxed W3 bs 9 (.string ({ data := #[] }))):=ι (hT3.keep _ _ HX2.out (HZD.out _))
     have HS3:Hid (W.heap.size≤W3.heap.size):=ι (Nat.le_trans HS2.out hT3.size)
     have cd3:=HX3.out.cell
     clear hy hR hJ3 hT3
     gi_wp2
     go_roundw
     case rel=>exact⟨_,{ data := #[] },HL1,HJ3,HX3,by show 0≤s.size;omega,HS3⟩
     case measure=>rw[HCD.out,cd3];exact HZ1.out
    ·have HJX3:=ι hJx3
     clear hy hR hJx3 hT3
     gi_wp2
     refine bodyPost_ret (results_none rfl _ _ _) rfl ?_
     exact⟨⟨_,rfl⟩,.inr ⟨_,HP.out,HJX3.out⟩⟩
  ·have hz:r.size=0:=by omega
   have HE:Hid (linesB s=pre):=ι (by rw[HL.out,b0d hz,List.append_nil])
   have hzi:(r.size:Int)=0:=by omega
   gi_wp2
   go_end0
   exact⟨⟨_,rfl⟩,.inl ⟨_,HE.out.symm,HJS.out⟩⟩
end vw
namespace vw
set_option maxRecDepth 100000
open Go.ChangeShapes Go.WideShapes Go.ChangeAt Go.RowKit
open rows
open sec
open ly
open pa
open fs (Nd aggN AtN a1a nd0 a1g)
theorem a2j{ops:Array Oper}{rest:List Oper}{o:Oper}{a:Act}{w:World}{Q:Exit→Act→World→Prop}(hgd:o.guard=none)(p y:Operand)(ho:o.op = .store 35 p y)(hd:o.dst=none)
  (g:Nat) (x old:Nd) (hp:a.eval p = .pointer (some ⟨g,0,none⟩)) (hy:a.eval y=aggN x) (hg:AtN w g old)
  (h:∀w',AtN w' g x→Below g w w'→w'.heap.size=w.heap.size→wpList Tryz.prog ops Q rest a w'):wpList Tryz.prog ops Q (o::rest) a w:=by
 refine wpList_store_row hgd 35 p y ho g #[.string x.path,.bool x.dir,.string x.data] hp hy 35 _ hg (by rw[a1g];rfl) rfl (by simp[Value.oneCell']) ?_
 rw[hd]
 exact h _ (setRow_heap w g _ _ _ _ hg) ((Below.refl g w).trans ⟨rfl,rfl,rfl,by simp[World.setRow],fun k hk=>setRow_other w g k _ (by omega)⟩) (by simp[World.setRow])
theorem b1m{fn:Func}{p q:Tmp}{R:Ending→World→Prop}{a:Act}{w:World}(h:fn.results = #[.cell p 35,.tmp q])(g:Nat)(x:Nd)(v:Value)(hp:a.tmps.getD p undef = .pointer (some ⟨g,0,none⟩))(hq:a.tmps.getD q undef=v)(hg:AtN w g x)
  (hd:a.defers=[]) (hR:R (.returned (.tuple #[aggN x,v])) w):bodyPost Tryz.prog fn R .ret a w:=by
 refine bodyPost_ret (v := .tuple #[aggN x,v]) ?_ hd hR
 have hp':a.tmps[p]?.getD undef = .pointer (some ⟨g,0,none⟩):=by simpa using hp
 have hq':a.tmps[q]?.getD undef=v:=by simpa using hq
 have hl:=run_loadVar_row (P:=Tryz.prog) w g _ 35 _ _ _ hg Tryz.underlying35 rfl (by rw[a1g];rfl)
 simp[results,h,hp',hq',asAddr,hl]
def mkB(u:List UInt8):ByteArray:=⟨u.toArray⟩
def numL(u:List UInt8):List Int:=u.map fun c=>(c.toNat:Int)
theorem a2y(u:List UInt8):bys (mkB u)=numL u:=rfl
theorem b8e(u:List UInt8):strOfNums (numL u)=mkB u:=by
 rw[← a2y,a1h]
theorem mk_bys(s:ByteArray):mkB s.data.toList=s:=by
 apply a1p
 rfl
theorem b8f(u:List UInt8):Lib.hasSuffix (u++[10]) [10]=true:=by
 rw[Lib.hasSuffix,List.isSuffixOf_iff_suffix]
 exact List.suffix_append _ _
theorem c0q(u:List UInt8):Lib.trimSuffix (u++[10]) [10]=u:=by
 rw[Lib.trimSuffix,if_pos (b8f u)]
 simp
theorem b7t(u:List UInt8):Lib.hasSuffix (u++[10]) [47,10]=decide (u.getLast? = some 47):=by
 rw[Bool.eq_iff_iff,decide_eq_true_eq,Lib.hasSuffix,List.isSuffixOf_iff_suffix]
 constructor
 ·rintro⟨t,ht⟩
  have h2:t++[47,10]=(t++[47])++[10]:=by simp
  rw[h2] at ht
  have:=List.append_inj_left' ht rfl
  rw[← this]
  simp
 ·intro h
  obtain⟨t,rfl⟩:=List.getLast?_eq_some_iff.1 h
  exact⟨t,by simp⟩
theorem b8s(u:List UInt8)(h:u.getLast? = some 47):Lib.trimSuffix (u++[10]) [47,10]=u.dropLast:=by
 obtain⟨t,rfl⟩:=List.getLast?_eq_some_iff.1 h
 rw[Lib.trimSuffix,if_pos (by rw[b7t];simp)]
 simp
theorem b2n{u p:List UInt8}(h:Lib.hasSuffix u p=false):Lib.trimSuffix u p=u:=by rw[Lib.trimSuffix,if_neg (by rw[h];decide)]
theorem suf_not{u:List UInt8}(h:∀x∈u,x≠10)(h0:u≠[]):Lib.hasSuffix u [10]=false∧Lib.hasSuffix u [47,10]=false:=by
 constructor
 ·rw[Bool.eq_false_iff]
  intro hs
  rw[Lib.hasSuffix,List.isSuffixOf_iff_suffix] at hs
  exact h 10 (hs.subset (by simp)) rfl
 ·rw[Bool.eq_false_iff]
  intro hs
  rw[Lib.hasSuffix,List.isSuffixOf_iff_suffix] at hs
  exact h 10 (hs.subset (by simp)) rfl
theorem b2i(u:List UInt8)(c:UInt8):Lib.cut u [c]=if (u.takeWhile fun x=>x != c).length<u.length then (u.takeWhile (fun x=>x != c),u.drop ((u.takeWhile fun x=>x != c).length+1),true) else (u,[],false):=by
 rw[Lib.cut,Lib.index_one,a8g]
 by_cases h:(u.takeWhile fun x=>x != c).length<u.length
 ·rw[if_pos h,if_pos (by omega),if_pos h,Int.toNat_natCast]
  rw[show u.take (u.takeWhile fun x=>x != c).length=u.takeWhile (fun x=>x != c) from(List.prefix_iff_eq_take.1 (List.takeWhile_prefix _)).symm]
  rfl
 ·rw[if_neg h,if_neg (by omega),if_neg h]
def nodeL(u:List UInt8):Nd×Bool :=
 if u.getLast? = some 47 then (⟨mkB u.dropLast,true,⟨#[]⟩⟩,true)
 else (⟨mkB (Lib.cut u [32]).1,false,strOfNums ((unquoteL (numL (Lib.cut u [32]).2.1)).getD [])⟩,(unquoteL (numL (Lib.cut u [32]).2.1)).isSome)
theorem a0y(u:List UInt8):(numL u).length=u.length:=List.length_map _
theorem b5d(u:List UInt8):∀x∈numL u,0≤x∧x<256:=by
 rw[← a2y];exact a0n _
theorem b8c(u:List UInt8)(c:UInt8):cutAt (c.toNat:Int) (numL u)=numL (u.takeWhile fun x=>x != c):=by
 unfold cutAt numL
 rw[List.takeWhile_map]
 congr 2
 funext x
 simp only[Function.comp]
 rw[Bool.eq_iff_iff,bne_iff_ne,bne_iff_ne]
 constructor
 ·intro h e;subst e;exact h rfl
 ·intro h e;exact h (UInt8.toNat_inj.1 (by omega))
theorem b2f(u:List UInt8):(u.getLast? = some 47)↔(numL u≠[]∧(numL u).getD ((numL u).length-1) 0=47):=by
 rw[a0y]
 cases hu:u.getLast? with
 | none =>
  rw[List.getLast?_eq_none_iff] at hu
  subst hu
  simp[numL]
 | some c =>
  obtain⟨t,rfl⟩:=List.getLast?_eq_some_iff.1 hu
  have e:(numL (t++[c])).getD ((t++[c]).length-1) 0=(c.toNat:Int):=by
   rw[List.length_append,List.length_singleton,Nat.add_sub_cancel,numL,List.map_append,List.getD,List.getElem?_append_right (by simp)]
   simp
  rw[e]
  constructor
  ·intro h
   cases h
   exact⟨by simp[numL],rfl⟩
  ·intro h
   congr 1
   apply UInt8.toNat_inj.1
   have:=h.2
   have h2:c.toNat=47:=by omega
   rw[h2];rfl
theorem b5l(u:List UInt8):lineV (numL u)=if (nodeL u).2 && okN (nodeL u).1 then some (nodeL u).1 else none:=by
 by_cases h:u.getLast? = some 47
 ·have h2:=(b2f u).1 h
  rw[lineV,if_pos h2,nodeL,if_pos h]
  have e:(numL u).take ((numL u).length-1)=numL u.dropLast:=by
   rw[a0y,List.dropLast_eq_take,numL,numL,List.map_take]
  rw[e,b8e,Bool.true_and]
  rfl
 ·have h2:¬(numL u≠[]∧(numL u).getD ((numL u).length-1) 0=47):=fun hh=>h ((b2f u).2 hh)
  rw[lineV,if_neg h2,nodeL,if_neg h,b2i]
  have e:=b8c u 32
  have el:(cutAt 32 (numL u)).length=(u.takeWhile fun x=>x != 32).length:=by
   have:=congrArg List.length e
   rw[a0y] at this
   exact this
  rw[el,a0y]
  by_cases h3:(u.takeWhile fun x=>x != 32).length<u.length
  ·rw[if_pos h3,if_pos h3]
   have ed:(numL u).drop ((u.takeWhile fun x=>x != 32).length+1)=numL (u.drop ((u.takeWhile fun x=>x != 32).length+1)):=by rw[numL,numL,List.map_drop]
   rw[ed]
   have ec:strOfNums (cutAt 32 (numL u))=mkB (u.takeWhile fun x=>x != 32):=by
    rw[← b8e]
    exact congrArg strOfNums e
   simp only
   cases hq:unquoteL (numL (u.drop ((u.takeWhile fun x=>x != 32).length+1))) with
   | none=>rfl
   | some m =>
    simp only[Option.getD_some,Option.isSome_some,Bool.true_and]
    rw[ec]
  ·rw[if_neg h3,if_neg h3]
   rfl
set_option maxRecDepth 100000 in
set_option maxHeartbeats 2000000 in
theorem b0t(u:List UInt8)(w:World)(hmx:Mx w)(hu:u.length≤40000):Calls Tryz.prog 50 #[.string (mkB (u++[10]))] w (Rt w (.tuple #[aggN (nodeL u).1,.bool (nodeL u).2])):=by
 have A0:=ι (a1a w nd0)
 have B0:=ι (a0b (Below.refl w.heap.size w) (.cells #[.string nd0.path,.bool nd0.dir,.string nd0.data] 35))
 have hz:(mkB (u++[10])).size=u.length+1:=by rw[← a0d,a2y,a0y];simp
 have H1:=ι fun w'=>Tryz.strings_CutSuffix (mkB (u++[10])) { data := #[47,10] } w' (by omega)
 have H2:=ι fun w'=>Tryz.strings_CutSuffix (mkB (u++[10])) { data := #[10] } w' (by omega)
 change Hid (∀w',Calls Tryz.prog 99 #[.string (mkB (u++[10])),.string { data := #[47,10] }] w' fun e w''=>e = .returned (.tuple #[.string (mkB (Lib.trimSuffix (u++[10]) [47,10])),.bool (Lib.hasSuffix (u++[10]) [47,10])])∧w''=w') at H1
 change Hid (∀w',Calls Tryz.prog 99 #[.string (mkB (u++[10])),.string { data := #[10] }] w' fun e w''=>e = .returned (.tuple #[.string (mkB (Lib.trimSuffix (u++[10]) [10])),.bool (Lib.hasSuffix (u++[10]) [10])])∧w''=w') at H2
 rw[b8f,c0q] at H2
 rw[b7t] at H1
 by_cases h:u.getLast? = some 47
 ·rw[decide_eq_true h,b8s u h] at H1
  rw[nodeL,if_pos h]
  generalize mkB u.dropLast=pth at *
  generalize mkB (u++[10])=line at *
  clear hz H2 h
  go_enter Tryz.func50,Tryz.ntmps50
  go_wp2_with (first
   | (go_at_call 99;with_reducible refine(H1.out _).mono ?_;rintro e w1 ⟨rfl,hw⟩;obtain rfl:=hw.symm)
   | (refine wpList_buildTo rfl 35 #[(0,.tmp 18),(1,.const (.bool true))] rfl (some 19) rfl #[.string pth,.bool true,.string { data := #[] }] (by kernel_rfl) ?_)
   | (refine a2j rfl (.tmp 2) (.tmp 19) rfl rfl w.heap.size ⟨pth,true,{ data := #[] }⟩ _ rfl rfl A0.out ?_;intro w2 hA hB hO;have A2:=ι hA;have B2:=ι (B0.out.trans hB);clear hA hB hO))
  exact b1m rfl w.heap.size _ _ rfl rfl A2.out rfl ⟨rfl,B2.out⟩
 ·rw[decide_eq_false h] at H1
  rw[nodeL,if_neg h]
  have HC:Hid (∀w',Below w.heap.size w w'→Calls Tryz.prog 100 #[.string (mkB u),.string { data := #[32] }] w' fun e w''=>e = .returned (.tuple #[.string (mkB (Lib.cut u [32]).1),.string (mkB (Lib.cut u [32]).2.1),.bool (Lib.cut u [32]).2.2])∧∃n,w''=w'.drewN n):=ι fun w' hb=>by
   obtain⟨mm,hm⟩:=hmx.later hb
   exact Tryz.strings_Cut (mkB u) { data := #[32] } mm w' (by rw[← a0d,a2y,a0y];omega) hm
  have hcl:(Lib.cut u [32]).2.1.length≤u.length:=by
   rw[b2i]
   split
   ·simp
   ·simp
  have HU:=ι fun w'=>a1t (mkB (Lib.cut u [32]).2.1) w' (by rw[← a0d,a2y,a0y];omega)
  rw[a2y] at HU
  generalize mkB (Lib.cut u [32]).1=pth at *
  generalize mkB (Lib.cut u [32]).2.1=quo at *
  generalize (Lib.cut u [32]).2.2=fnd at *
  generalize (unquoteL (numL (Lib.cut u [32]).2.1)).isSome=okb at *
  generalize strOfNums ((unquoteL (numL (Lib.cut u [32]).2.1)).getD [])=dat at *
  generalize mkB (Lib.trimSuffix (u++[10]) [47,10])=t9 at *
  generalize mkB (u++[10])=line at *
  generalize mkB u=lin at *
  clear hz hcl hmx h hu
  cases okb
  all_goals
   go_enter Tryz.func50,Tryz.ntmps50
   go_wp2_with (first
    | (go_at_call 99;with_reducible refine(H1.out _).mono ?_;rintro e w1 ⟨rfl,hw⟩;obtain rfl:=hw.symm)
    | (go_at_call 99;with_reducible refine(H2.out _).mono ?_;rintro e w1 ⟨rfl,hw⟩;obtain rfl:=hw.symm)
    | (go_at_call 100;refine(HC.out _ B0.out).mono ?_;rintro e w2 ⟨rfl,n2,hw2⟩;have B2:=ι (show Below w.heap.size w w2 by(rw[hw2];exact a2g B0.out n2));have A2:=ι (show AtN w2 w.heap.size nd0 by(rw[hw2];exact A0.out));clear hw2)
    | (go_at_call 14;refine(HU.out _).mono ?_;rintro e w3 ⟨rfl,hb⟩;have B3:=ι (a0a B2.out hb);have A3:=ι (A2.out.later hb);clear hb)
    | (refine wpList_buildTo rfl 35 #[(0,.tmp 36),(2,.tmp 37)] rfl (some 38) rfl #[.string pth,.bool false,.string dat] (by kernel_rfl) ?_)
    | (refine a2j rfl (.tmp 2) (.tmp 38) rfl rfl w.heap.size ⟨pth,false,dat⟩ _ rfl rfl A3.out ?_;intro w4 hA hB hO;have A4:=ι hA;have B4:=ι (B3.out.trans hB);clear hA hB hO))
   exact b1m rfl w.heap.size _ _ rfl rfl A4.out rfl ⟨rfl,B4.out⟩
end vw
namespace vw
set_option maxRecDepth 100000
open Go.ChangeShapes Go.WideShapes Go.ChangeAt Go.RowKit
open rows
open sec
open ly
open pa
open lk
open rng
open fs (Nd aggN AtN a1a nd0)
attribute [local go_sem] Oper.semAt_some
def RdAt(s:ByteArray)(pre:List ByteArray)(ns:List Nd):Prop:=∃r:ByteArray,linesB s=pre++linesB r∧rdNodes (bys s)=(rdNodes (bys r)).map (ns ++ ·)∧r.size≤s.size
theorem b4f(s:ByteArray):RdAt s [] []:=⟨s,rfl,by cases rdNodes (bys s)<;>rfl,Nat.le_refl _⟩
theorem b9v{s:ByteArray}{ns:List Nd}(h:RdAt s (linesB s) ns):rdNodes (bys s)=some ns:=by
 obtain⟨r,h1,h2,_⟩:=h
 have h3:linesB r=[]:=by
  have:=congrArg List.length h1
  rw[List.length_append] at this
  exact List.eq_nil_of_length_eq_zero (by omega)
 have h0:r.size=0:=by
  rcases Nat.eq_zero_or_pos r.size with h|h
  ·exact h
  ·rw[a3f h] at h3;cases h3
 have hb:bys r=[]:=List.eq_nil_of_length_eq_zero (by rw[a0d];exact h0)
 rw[h2,hb,b9h]
 simp
theorem c0r(r:ByteArray)(k:Nat)(h:k≤r.size):r.extract 0 k=mkB (r.data.toList.take k):=by
 apply a1p
 rw[a2y]
 unfold bys numL
 rw[ByteArray.data_extract,Array.toList_extract,List.extract_eq_take_drop,List.drop_zero,Nat.sub_zero]
theorem b6r{s:ByteArray}{pre:List ByteArray}{ns:List Nd}{x:ByteArray}(h:RdAt s pre ns)(hp:pre++[x] <+: linesB s) :
  (∃u,x=mkB (u++[10])∧u.length≤s.size∧((lineV (numL u)=none∧rdNodes (bys s)=none)∨∃nd,lineV (numL u)=some nd∧RdAt s (pre++[x]) (ns++[nd]))) ∨
  (∃u,x=mkB u∧u≠[]∧(∀c∈u,c≠10)∧u.length≤s.size∧rdNodes (bys s)=none):=by
 obtain⟨r,h1,h2,h3⟩:=h
 rw[h1] at hp
 obtain⟨t,ht⟩:=hp
 rw[List.append_assoc] at ht
 have ht2:=List.append_cancel_left ht
 have h0:0<r.size:=by
  rcases Nat.eq_zero_or_pos r.size with h|h
  ·rw[b0d h] at ht2;cases ht2
  ·exact h
 rw[a3f h0] at ht2
 have hx:x=r.extract 0 (lineN r):=by injection ht2
 have hlist:linesB s=(pre++[x])++linesB (r.extract (lineN r) r.size):=by rw[h1,a3f h0,← hx];simp
 have hl:=a5h r
 have hbr:bys r=numL r.data.toList:=rfl
 have hcut:cutAt 10 (bys r)=numL (r.data.toList.takeWhile fun c=>c != 10):=b8c r.data.toList 10
 have hcl:(cutAt 10 (bys r)).length=(r.data.toList.takeWhile fun c=>c != 10).length:=by rw[hcut,a0y]
 have hne:bys r≠[]:=by intro e;have:=a0d r;rw[e] at this;simp at this;omega
 have hdl:r.data.toList.length=r.size:=Array.length_toList
 by_cases hc:(cutAt 10 (bys r)).length<r.size
 ·refine Or.inl ⟨r.data.toList.takeWhile fun c=>c != 10,?_,by rw[← hcl];omega,?_⟩
  ·have hln:lineN r=(cutAt 10 (bys r)).length+1:=by rw[lineN,if_pos hc]
   rw[hx,c0r r _ hl,hln,hcl]
   congr 1
   have hlt:(r.data.toList.takeWhile fun c=>c != 10).length<r.data.toList.length:=by rw[← hcl,hdl];exact hc
   have e1:=List.takeWhile_append_dropWhile (p:=fun c=>c != 10) (l:=r.data.toList)
   cases hd:r.data.toList.dropWhile (fun c=>c != 10) with
   | nil =>
    rw[hd,List.append_nil] at e1
    rw[e1] at hlt;omega
   | cons d v =>
    have hd10:d=10:=by
     have:=List.head?_dropWhile_not (fun c:UInt8=>c != 10) r.data.toList
     rw[hd] at this
     simpa using this
    subst hd10
    rw[hd] at e1
    clear hd hlt
    generalize r.data.toList.takeWhile (fun c=>c != 10)=a at *
    rw[← e1,List.take_append,List.take_of_length_le (by omega),Nat.add_sub_cancel_left]
    rfl
  ·have hcb:(cutAt 10 (bys r)).length<(bys r).length:=by rw[a0d];exact hc
   have hln:lineN r=(cutAt 10 (bys r)).length+1:=by rw[lineN,if_pos hc]
   cases hv:lineV (numL (r.data.toList.takeWhile fun c=>c != 10)) with
   | none =>
    refine Or.inl ⟨rfl,?_⟩
    rw[h2,b3c hne fun _=>by rw[hcut];exact hv]
    rfl
   | some nd =>
    refine Or.inr ⟨nd,rfl,r.extract (lineN r) r.size,hlist,?_,by rw[ByteArray.size_extract];omega⟩
    rw[h2,a9y hcb (x:=nd) (by rw[hcut];exact hv),a5e r hl,hln,Option.map_map]
    congr 1
    funext z
    simp
 ·refine Or.inr ⟨r.data.toList,?_,?_,?_,by rw[hdl];exact h3,?_⟩
  ·have hln:lineN r=r.size:=by rw[lineN,if_neg hc]
   rw[hx,hln,a8s,mk_bys]
  ·intro e;rw[e] at hdl;simp at hdl;omega
  ·have e2:r.data.toList.takeWhile (fun c=>c != 10)=r.data.toList:=by
    refine(List.takeWhile_prefix _).eq_of_length ?_
    have:=(List.takeWhile_prefix (p:=fun c:UInt8=>c != 10) (l:=r.data.toList)).length_le
    omega
   intro c hcm
   have e3:=List.all_takeWhile (p:=fun c:UInt8=>c != 10) (l:=r.data.toList)
   rw[e2,List.all_eq_true] at e3
   simpa using e3 c hcm
  ·rw[h2,b3c hne fun h=>absurd (by rw[a0d] at h;exact h) hc]
   rfl
set_option maxRecDepth 100000 in
set_option maxHeartbeats 2000000 in
theorem a9h(u:List UInt8)(w:World)(hmx:Mx w)(hu:u.length≤40000)(h10:∀c∈u,c≠10)(h0:u≠[]):Calls Tryz.prog 50 #[.string (mkB u)] w fun e w'=>∃x,e = .returned (.tuple #[aggN x,.bool false])∧Below w.heap.size w w':=by
 have A0:=ι (a1a w nd0)
 have B0:=ι (a0b (Below.refl w.heap.size w) (.cells #[.string nd0.path,.bool nd0.dir,.string nd0.data] 35))
 have hz:(mkB u).size=u.length:=by rw[← a0d,a2y,a0y]
 obtain⟨q1,q2⟩:=suf_not h10 h0
 have H1:=ι fun w'=>Tryz.strings_CutSuffix (mkB u) { data := #[47,10] } w' (by omega)
 have H2:=ι fun w'=>Tryz.strings_CutSuffix (mkB u) { data := #[10] } w' (by omega)
 change Hid (∀w',Calls Tryz.prog 99 #[.string (mkB u),.string { data := #[47,10] }] w' fun e w''=>e = .returned (.tuple #[.string (mkB (Lib.trimSuffix u [47,10])),.bool (Lib.hasSuffix u [47,10])])∧w''=w') at H1
 change Hid (∀w',Calls Tryz.prog 99 #[.string (mkB u),.string { data := #[10] }] w' fun e w''=>e = .returned (.tuple #[.string (mkB (Lib.trimSuffix u [10])),.bool (Lib.hasSuffix u [10])])∧w''=w') at H2
 rw[q1,b2n q1] at H2
 rw[q2,b2n q2] at H1
 have HC:Hid (∀w',Below w.heap.size w w'→Calls Tryz.prog 100 #[.string (mkB u),.string { data := #[32] }] w' fun e w''=>e = .returned (.tuple #[.string (mkB (Lib.cut u [32]).1),.string (mkB (Lib.cut u [32]).2.1),.bool (Lib.cut u [32]).2.2])∧∃n,w''=w'.drewN n):=ι fun w' hb=>by
  obtain⟨mm,hm⟩:=hmx.later hb
  exact Tryz.strings_Cut (mkB u) { data := #[32] } mm w' (by rw[hz];omega) hm
 have hcl:(Lib.cut u [32]).2.1.length≤u.length:=by
  rw[b2i]
  split
  ·simp
  ·simp
 have HU:=ι fun w'=>a1t (mkB (Lib.cut u [32]).2.1) w' (by rw[← a0d,a2y,a0y];omega)
 rw[a2y] at HU
 generalize mkB (Lib.cut u [32]).1=pth at *
 generalize mkB (Lib.cut u [32]).2.1=quo at *
 generalize (Lib.cut u [32]).2.2=fnd at *
 generalize (unquoteL (numL (Lib.cut u [32]).2.1)).isSome=okb at *
 generalize strOfNums ((unquoteL (numL (Lib.cut u [32]).2.1)).getD [])=dat at *
 generalize mkB u=lin at *
 clear hz hcl hmx hu q1 q2 h10 h0
 cases okb
 all_goals
  go_enter Tryz.func50,Tryz.ntmps50
  go_wp2_with (first
   | (go_at_call 99;with_reducible refine(H1.out _).mono ?_;rintro e w1 ⟨rfl,hw⟩;obtain rfl:=hw.symm)
   | (go_at_call 99;with_reducible refine(H2.out _).mono ?_;rintro e w1 ⟨rfl,hw⟩;obtain rfl:=hw.symm)
   | (go_at_call 100;refine(HC.out _ B0.out).mono ?_;rintro e w2 ⟨rfl,n2,hw2⟩;have B2:=ι (show Below w.heap.size w w2 by(rw[hw2];exact a2g B0.out n2));have A2:=ι (show AtN w2 w.heap.size nd0 by(rw[hw2];exact A0.out));clear hw2)
   | (go_at_call 14;refine(HU.out _).mono ?_;rintro e w3 ⟨rfl,hb⟩;have B3:=ι (a0a B2.out hb);have A3:=ι (A2.out.later hb);clear hb)
   | (refine wpList_buildTo rfl 35 #[(0,.tmp 36),(2,.tmp 37)] rfl (some 38) rfl #[.string pth,.bool false,.string dat] (by kernel_rfl) ?_)
   | (refine a2j rfl (.tmp 2) (.tmp 38) rfl rfl w.heap.size ⟨pth,false,dat⟩ _ rfl rfl A3.out ?_;intro w4 hA hB hO;have A4:=ι hA;have B4:=ι (B3.out.trans hB);clear hA hB hO))
  exact b1m rfl w.heap.size _ _ rfl rfl A4.out rfl ⟨_,rfl,B4.out⟩
end vw
namespace vw
set_option maxRecDepth 100000
open Go.ChangeShapes Go.WideShapes Go.ChangeAt Go.RowKit
open rows
open sec
open ly
open pa
open lk
open rng
open fs (Nd AtN nodesC a0z nd0)
open dsk (a1k a1r a7s)
attribute [local go_sem] Oper.semAt_some
theorem PN.calmH{B C:Nat}{w:World}{hole:Nat→Prop}{pre:List Nd}{q:Option Addr}{n c:Nat}{a b:World}(h:PN B w pre q n c a)(hc:CalmH hole softN C a b)(hB:B<C)(hh:∀k,k≤B→¬hole k):PN B w pre q n c b:=by
 refine⟨hc.boxed hB (hh _ (Nat.le_refl _)) h.box,⟨h.own.1,?_⟩,h.len,h.low,h.below.trans ⟨hc.os,hc.tape,hc.output,hc.size,fun i hi => ?_⟩⟩
 ·rcases h.own.2 with h2|⟨g,cap,cur,hv,h3,h4,h5⟩
  ·exact Or.inl h2
  ·exact Or.inr ⟨g,cap,cur,hv,h3,hc.block g _ h4 (Or.inr ⟨_,_,rfl⟩),h5⟩
 ·have hl:i<a.heap.size:=Nat.lt_trans hi h.box.lt
  have e:a.heap[i]? = some a.heap[i]:=Array.getElem?_eq_getElem hl
  exact(hc.block i _ e (Or.inl ⟨by omega,hh _ (by omega)⟩)).trans e.symm
theorem b0l:∀(f:Nat) (s:ByteArray),(linesF f s).length≤f
 | 0,s=>Nat.le_refl _
 | f+1,s=>by
  rw[linesF]
  split
  ·simp
  ·have:=b0l f (s.extract (lineN s) s.size)
   simp;omega
theorem b4r(u:List UInt8):(nodeL u).1.path.size≤u.length∧(nodeL u).1.data.size≤u.length:=by
 have hz:∀v:List UInt8,(mkB v).size=v.length:=fun v=>by rw[← a0d,a2y,a0y]
 have hc:=b2i u 32
 have h1:(Lib.cut u [32]).1.length≤u.length∧(Lib.cut u [32]).2.1.length≤u.length:=by
  rw[hc]
  split
  ·exact⟨(List.takeWhile_prefix _).length_le,by simp⟩
  ·exact⟨Nat.le_refl _,by simp⟩
 unfold nodeL
 split
 ·exact⟨by rw[hz];simp,Nat.zero_le _⟩
 ·refine⟨by rw[hz];exact h1.1,?_⟩
  rw[strOfNums_size]
  cases hq:unquoteL (numL (Lib.cut u [32]).2.1) with
  | none=>exact Nat.zero_le _
  | some m =>
   obtain⟨e,_⟩:=a2q (b5d _) hq
   have h2:=a3w m
   have h3:=(a4g m).1
   have h4:=a0y (Lib.cut u [32]).2.1
   rw[← e] at h4
   simp only[Option.getD_some]
   omega
set_option maxRecDepth 100000 in
theorem b3x(s:ByteArray)(w:World)(hs:s.size≤100000):Calls Tryz.prog 51 #[.string s] w (Rt w (.string s)):=by
 have HC:=ι (Tryz.stringslite_Clone s w (by omega))
 go_enter Tryz.func51,Tryz.ntmps51
 go_wp2_with (go_at_call 101;refine HC.out.mono ?_;rintro e w1 ⟨rfl,hb⟩;have HB:=ι hb;clear hb)
 go_ret
 exact⟨rfl,HB.out⟩
theorem a8j(w:World):AtN (w.alloc (.cells #[.string { data := #[] },.bool false,.string { data := #[] }] 35)) w.heap.size nd0:=heap_alloc_new _ _
theorem b5c{w:World}{g:Nat}{x:Nd}(h:AtN w g x)(k:Nat):w.frozen? ⟨g,k,none⟩=false:=dsk.a0j h k
theorem nd_setP{w:World}{g:Nat}{x:Nd}(h:AtN w g x):AtN (w.setCell ⟨g,0,none⟩ (.string x.path)) g x:=dsk.a0f h _
theorem b8m{B:Nat}{w v:World}{g:Nat}{x:Nd}(h:Below B w v)(hg:B≤g)(hs:B≤v.heap.size):Below B w (v.setCell ⟨g,0,none⟩ (.string x.path)):=h.trans ((dsk.Touch.setCell (S:=fun k=>k=g) (dsk.Touch.refl _ v) ⟨g,0,none⟩ rfl _).below hs fun k hk=>by omega)
def RdI(s:ByteArray)(B:Nat)(W2:World)(pre:List ByteArray)(V:World):Prop:=∃ns q n c,RdAt s pre ns∧PN B W2 ns q n c V∧ns.length=pre.length
set_option maxRecDepth 100000 in
set_option maxHeartbeats 8000000 in
theorem b5i(s:ByteArray)(w:World)(hmx:Mx w)(hs:s.size≤40000):Calls Tryz.prog 18 #[.string s] w fun e w'=>∃q n c,e = .returned (.tuple #[.slice q n c,.bool (rdNodes (bys s)).isSome])∧Below w.heap.size w w'∧rows.Own w' 0 35 3 (.slice q n c) n (nodesC ((rdNodes (bys s)).getD [])):=by
 have hb1:=a0b (a0b (a0b (Below.refl w.heap.size w) (.cells #[.slice none 0 0] 25)) (.cells #[.bool false] 4)) (.cells #[.slice none 0 0] 25)
 have b0:=((Go.Boxed.new w 25 (.slice none 0 0)).alloc (.cells #[.bool false] 4)).alloc (.cells #[.slice none 0 0] 25)
 have b1:=(Go.Boxed.new (w.alloc (.cells #[.slice none 0 0] 25)) 4 (.bool false)).alloc (.cells #[.slice none 0 0] 25)
 have b2:=Go.Boxed.new ((w.alloc (.cells #[.slice none 0 0] 25)).alloc (.cells #[.bool false] 4)) 25 (.slice none 0 0)
 have hz:(((w.alloc (.cells #[.slice none 0 0] 25)).alloc (.cells #[.bool false] 4)).alloc (.cells #[.slice none 0 0] 25)).heap.size=w.heap.size+3:=by simp[World.size_alloc]
 simp only[World.size_alloc] at b0 b1 b2
 have HCN0:=(b4j s (((w.alloc (.cells #[.slice none 0 0] 25)).alloc (.cells #[.bool false] 4)).alloc (.cells #[.slice none 0 0] 25)))
 simp only[World.size_alloc] at HCN0
 have HCN:=ι HCN0
 clear HCN0
 obtain⟨W2,hW2⟩:∃W2,((w.alloc (.cells #[.slice none 0 0] 25)).alloc (.cells #[.bool false] 4)).alloc (.cells #[.slice none 0 0] 25)=W2:=⟨_,rfl⟩
 rw[hW2] at hb1 b0 b1 b2 hz
 have HB1:=ι hb1
 have HR0:=ι b0
 have HR1:=ι b1
 have HR2:=ι b2
 have HZ:=ι hz
 have HMX:=ι hmx
 have HW2:=ι hW2
 clear hb1 b0 b1 b2 hz hmx hW2
 refine(callsIn_wide (n:=10)).1 (callsIn_of_wp_marks Tryz.func18 rfl trivial ?_ rfl)
 simp only[Tryz.ntmps18,List.size_toArray,List.length_cons,List.length_nil,Nat.reduceAdd,Nat.reduceSub,Array.replicate_succ,Array.replicate_zero,List.push_toArray,List.append_toArray,List.nil_append,List.cons_append]
 gi_wp2_with (refine⟨trivial,?_⟩;gi_at_call 49;refine(callsIn_wide.2 HCN.out).mono ?_;rintro e wa ⟨rfl,hwa⟩;rw[HW2.out] at hwa;have HWA:=ι hwa;clear hwa)
 have HBa:Hid (Below W2.heap.size W2 wa):=ι (by rw[HWA.out];exact a0b (Below.refl _ _) _)
 have HBX:Hid (Go.Boxed wa (w.heap.size+1+1+1) 9 (.string s)):=ι (by
  rw[HWA.out]
  have e2:=Go.Boxed.new W2 9 (.string s)
  simp only[HZ.out] at e2
  exact e2)
 have HSa:Hid (wa.heap.size=w.heap.size+4):=ι (by rw[HWA.out];simp[World.size_alloc,HZ.out])
 clear HWA
 have HBw:Hid (Below w.heap.size w wa):=ι (HB1.out.trans (HBa.out.mono (by have:=HZ.out;omega)))
 have HPN:Hid (PN (w.heap.size+1+1) W2 [] none 0 0 wa):=ι ⟨(rng.Calm.of_below (B:=0) HBa.out).boxed HR2.out,a2b _ _ _ _,rfl,fun k hk=>by simp[Value.ownBlock] at hk,HBa.out.mono (by have:=HZ.out;omega)⟩
 have HHO:Hid (∀k,k≤w.heap.size+1+1→¬(k=w.heap.size+1+1+1)):=ι fun k hk=>by omega
 have HSQ:=ι (b6s softN s (by omega) (w.heap.size+1+1+1) (fun b o=>b=wa.heap.size+1∨(fun b o=>b=w.heap.size+1+1∨(w.heap.size+1+1<b∧∃cs,o = .cells cs 35 (0,0))) b o) wa HBX.out (fun v hv=>by
   have h1:=HSa.out
   rcases hv with hv|hv|⟨_,cs,hv⟩
   ·omega
   ·omega
   ·injection hv with h1 h2;cases h2) (fun v hv=>a2d (by decide) hv))
 refine b0y (gf:=98) (lb := #[.pointer (some ⟨w.heap.size+1+1+1,0,none⟩)]) rfl (fun args w=>enters_of Tryz.func98 (by kernel_rfl) rfl args w) (m:=(fun b o=>b=w.heap.size+1+1∨(w.heap.size+1+1<b∧∃cs,o = .cells cs 35 (0,0))))
  (fun k hk=>by have:=HSa.out;omega)
  HSQ.out
  (fun b o hb=>by
   have h1:=HSa.out
   rcases hb with hb|⟨_,cs,rfl⟩
   ·exact Or.inl (by omega)
   ·exact Or.inr ⟨cs,_,rfl⟩) a0l (fun _=>rfl)
  (fun pre V=>RdI s (w.heap.size+1+1) W2 pre V)
  (fun c pre V=>c = .ret∧rdNodes (bys s)=none∧Go.Boxed V w.heap.size 25 (.slice none 0 0)∧Go.Boxed V (w.heap.size+1) 4 (.bool false)∧Below w.heap.size w V)
  (fun pre A B h hc=>by
   obtain⟨ns,q,n,c,h1,h2,h3⟩:=h
   exact⟨ns,q,n,c,h1,h2.calmH hc (by have:=HSa.out;omega) HHO.out,h3⟩)
  (fun c pre A B h hc=>by
   obtain⟨h1,h2,h4,h5,h6⟩:=h
   have h9:=HSa.out
   refine⟨h1,h2,hc.boxed (by omega) (HHO.out _ (by omega)) h4,hc.boxed (by omega) (HHO.out _ (by omega)) h5,h6.trans ⟨hc.os,hc.tape,hc.output,hc.size,fun i hi => ?_⟩⟩
   have hl:i<A.heap.size:=Nat.lt_trans hi h4.lt
   have e:A.heap[i]? = some A.heap[i]:=Array.getElem?_eq_getElem hl
   exact(hc.block i _ e (Or.inl ⟨by omega,HHO.out _ (by omega)⟩)).trans e.symm)
  ⟨[],_,_,_,b4f s,HPN.out,rfl⟩
  (fun pre x a' V=>RdI s (w.heap.size+1+1) W2 pre V∧∃(t0 t1 t6 t7 t8 t9 t10 t11 t12 t13 t14 t15 t16 t17 t18 t19 t20 t21 t22 t23 t24 t25 t26 t27 t28 t29 t30 t31:Value),a'={ tmps := #[t0,t1,.pointer (some ⟨w.heap.size,0,none⟩),.pointer (some ⟨w.heap.size+1,0,none⟩),.pointer (some ⟨w.heap.size+1+1,0,none⟩),.string x,t6,t7,t8,t9,t10,t11,t12,t13,t14,t15,t16,t17,t18,t19,t20,t21,t22,t23,t24,t25,t26,t27,t28,t29,t30,t31],defers:=[] })
  (fun pre x a' A B h hc2=>by
   obtain⟨⟨ns,q,n,c,h1,h2,h3⟩,h4⟩:=h
   exact⟨⟨ns,q,n,c,h1,h2.calm (CalmS.of a0l hc2) (by have:=HSa.out;omega) (Nat.le_of_lt h2.box.lt),h3⟩,h4⟩)
  ?assign ?body ?done ?stop
 case assign =>
  rintro l2 pre x Vx hI hsz _
  have HI2:=ι hI
  clear hI
  gi_wp2
  exact⟨HI2.out,Turn.refl _ _⟩
 case body =>
  rintro l2 pre x a' Vx ⟨⟨ns,q,n,c,hRd,hI,hnl⟩,t0,t1,t6,t7,t8,t9,t10,t11,t12,t13,t14,t15,t16,t17,t18,t19,t20,t21,t22,t23,t24,t25,t26,t27,t28,t29,t30,t31,rfl⟩ hsz hsp
  have HST:=ι (b6r hRd hsp)
  have HI:=ι hI
  have HMV:Hid (Mx Vx):=ι (HMX.out.later (HB1.out.trans (hI.below.mono (by omega))))
  have hpl:pre.length≤40000:=by
   have h1:=hsp.length_le
   have h2:=b0l s.size s
   rw[List.length_append] at h1
   have:(linesB s).length≤s.size:=h2
   omega
  have HN0:=ι (show n+1≤1000000 by have:=hI.len;omega)
  have HNL:=ι hnl
  have HLW:Hid (Below w.heap.size w Vx):=ι (HB1.out.trans (hI.below.mono (by omega)))
  have k0:Go.Boxed Vx w.heap.size 25 (.slice none 0 0):=(hI.below.block _ (by omega)).trans HR0.out
  have k1:Go.Boxed Vx (w.heap.size+1) 4 (.bool false):=(hI.below.block _ (by omega)).trans HR1.out
  have K0:=ι k0
  have K1:=ι k1
  have HLT:=ι hI.box.lt
  clear hRd hI hnl hpl hsp k0 k1
  have fin:∀(V:World),Below Vx.heap.size Vx V→rdNodes (bys s)=none→roundEnd wa.heap.size softN (fun b o=>b=w.heap.size+1+1∨(w.heap.size+1+1<b∧∃cs,o = .cells cs 35 (0,0)))
    (fun pre V=>RdI s (w.heap.size+1+1) W2 pre V)
    (fun c pre V=>c = .ret∧rdNodes (bys s)=none∧Go.Boxed V w.heap.size 25 (.slice none 0 0)∧Go.Boxed V (w.heap.size+1) 4 (.bool false)∧Below w.heap.size w V) (pre++[x]) Vx .ret { tmps := #[],defers:=[] } ((V.setCell ⟨w.heap.size,0,none⟩ (.slice none 0 0)).setCell ⟨w.heap.size+1,0,none⟩ (.bool false)):=fun V hV hN=>by
   have hlt:=HLT.out
   have hwa:=HSa.out
   have j0:Go.Boxed V w.heap.size 25 (.slice none 0 0):=(hV.block _ (by omega)).trans K0.out
   have j1:Go.Boxed V (w.heap.size+1) 4 (.bool false):=(hV.block _ (by omega)).trans K1.out
   have ht:dsk.Touch (fun g=>g=w.heap.size∨g=w.heap.size+1) V ((V.setCell ⟨w.heap.size,0,none⟩ (.slice none 0 0)).setCell ⟨w.heap.size+1,0,none⟩ (.bool false)):=dsk.Touch.setCell (S:=fun g=>g=w.heap.size∨g=w.heap.size+1) (dsk.Touch.setCell (S:=fun g=>g=w.heap.size∨g=w.heap.size+1) (dsk.Touch.refl _ V) ⟨w.heap.size,0,none⟩ (Or.inl rfl) _) ⟨w.heap.size+1,0,none⟩ (Or.inr rfl) _
   have j1b:Go.Boxed (V.setCell ⟨w.heap.size,0,none⟩ (.slice none 0 0)) (w.heap.size+1) 4 (.bool false):=(Below.heap_setCell _ _ _ _ (by show w.heap.size+1≠w.heap.size;omega)).trans j1
   refine⟨⟨rfl,hN,(Below.heap_setCell _ _ _ _ (by show w.heap.size≠w.heap.size+1;omega)).trans (j0.set _),j1b.set _,(HLW.out.trans (hV.mono HLW.out.size)).trans (ht.below (by have:=hV.size;omega) fun k hk=>by omega)⟩,(Turn.of_below hV).trans (Turn.of_touch' ht fun k o _ hk=>Or.inl (by omega))⟩
  have FIN:=ι fin
  clear fin
  rcases HST.out with⟨u,rfl,hul,hcase⟩|⟨u,rfl,hu0,hu10,hul,hN⟩
  ·have HNO:=ι fun w' (hb:Below Vx.heap.size Vx w')=>b0t u w' (HMV.out.later hb) (by omega)
   have hnz:=b4r u
   have HCV:=ι fun w' (hb:Below Vx.heap.size Vx w')=>a7h (nodeL u).1 w' (HMV.out.later hb) (by omega) (by omega)
   have hln:=b5l u
   have hyz:(nodeL u).1.path.size≤100000:=by omega
   rw[hln] at hcase
   obtain⟨⟨y,b⟩,hy⟩:∃p,nodeL u=p:=⟨_,rfl⟩
   rw[hy] at HNO HCV hcase hyz
   simp only at HNO HCV hcase hyz
   have HCL:=ι fun w'=>b3x y.path w' hyz
   have HCS:=ι hcase
   generalize mkB (u++[10])=x at *
   clear hln hy hnz hul hcase hyz
   cases b with
   | false =>
    have hN:rdNodes (bys s)=none:=by
     rcases HCS.out with h|⟨nd,h,_⟩
     ·exact h.2
     ·cases h
    have HN:=ι hN
    clear hN HCS
    gi_upto_region 6 with(first
     | (refine⟨trivial,?_⟩;gi_at_call 50;refine(a2o (HNO.out _ (Below.refl _ _))).mono ?_;rintro e w4 ⟨rfl,hb⟩;have B4:=ι hb;clear hb)
     | (refine a3j rfl ?_;refine a2j rfl (.tmp 6) (.tmp 14) rfl rfl w4.heap.size y _ rfl rfl (a8j w4) ?_;intro w5 hA hB hZ;have A5:=ι hA;have B5:=ι (B4.out.trans (((a0b (Below.refl w4.heap.size w4) (.cells #[.string { data := #[] },.bool false,.string { data := #[] }] 35)).trans hB).mono B4.out.size));clear hA hB hZ;refine a2a ?_))
    have hlt:=HLT.out
    have j0:Go.Boxed w5 w.heap.size 25 (.slice none 0 0):=(B5.out.block _ (by omega)).trans K0.out
    have j1:Go.Boxed w5 (w.heap.size+1) 4 (.bool false):=(B5.out.block _ (by omega)).trans K1.out
    have j1b:Go.Boxed (w5.setCell ⟨w.heap.size,0,none⟩ (.slice none 0 0)) (w.heap.size+1) 4 (.bool false):=(Below.heap_setCell _ _ _ _ (by show w.heap.size+1≠w.heap.size;omega)).trans j1
    have c0:=j0.cell
    have f0:=j0.frozen
    have c1:=j1b.cell
    have f1:=j1b.frozen
    clear j0 j1 j1b hlt
    gi_wp2
    repeat (refine⟨trivial,?_⟩;gi_wp2)
    exact FIN.out _ B5.out HN.out
   | true =>
    cases hok:okN y with
    | false =>
     rw[hok] at HCV HCS
     have hN:rdNodes (bys s)=none:=by
      rcases HCS.out with h|⟨nd,h,_⟩
      ·exact h.2
      ·cases h
     have HN:=ι hN
     clear hN HCS hok
     gi_upto_region 5 with(first
      | (refine⟨trivial,?_⟩;gi_at_call 50;refine(a2o (HNO.out _ (Below.refl _ _))).mono ?_;rintro e w4 ⟨rfl,hb⟩;have B4:=ι hb;clear hb)
      | (refine a3j rfl ?_;refine a2j rfl (.tmp 6) (.tmp 14) rfl rfl w4.heap.size y _ rfl rfl (a8j w4) ?_;intro w5 hA hB hZ;have A5:=ι hA;have B5:=ι (B4.out.trans (((a0b (Below.refl w4.heap.size w4) (.cells #[.string { data := #[] },.bool false,.string { data := #[] }] 35)).trans hB).mono B4.out.size));clear hA hB hZ;refine a2a ?_))
     have d0:=A5.out.c0
     have d1:=A5.out.c1
     have d2:=A5.out.c2
     gi_upto_region 6 with(first
      | (refine⟨trivial,?_⟩;gi_at_call 43;refine(a2o (HCV.out _ B5.out)).mono ?_;rintro e w6 ⟨rfl,hb⟩;have B6:=ι (a0a B5.out hb);clear hb))
     have hlt:=HLT.out
     have j0:Go.Boxed w6 w.heap.size 25 (.slice none 0 0):=(B6.out.block _ (by omega)).trans K0.out
     have j1:Go.Boxed w6 (w.heap.size+1) 4 (.bool false):=(B6.out.block _ (by omega)).trans K1.out
     have j1b:Go.Boxed (w6.setCell ⟨w.heap.size,0,none⟩ (.slice none 0 0)) (w.heap.size+1) 4 (.bool false):=(Below.heap_setCell _ _ _ _ (by show w.heap.size+1≠w.heap.size;omega)).trans j1
     have c0:=j0.cell
     have f0:=j0.frozen
     have c1:=j1b.cell
     have f1:=j1b.frozen
     clear j0 j1 j1b hlt
     gi_wp2
     repeat (refine⟨trivial,?_⟩;gi_wp2)
     exact FIN.out _ B6.out HN.out
    | true =>
     rw[hok] at HCV HCS
     have hN:RdAt s (pre++[x]) (ns++[y]):=by
      rcases HCS.out with h|⟨nd,h,h2⟩
      ·cases h.1
      ·cases h;exact h2
     have HN:=ι hN
     clear hN HCS hok
     gi_upto_region 5 with(first
      | (refine⟨trivial,?_⟩;gi_at_call 50;refine(a2o (HNO.out _ (Below.refl _ _))).mono ?_;rintro e w4 ⟨rfl,hb⟩;have B4:=ι hb;clear hb)
      | (refine a3j rfl ?_;refine a2j rfl (.tmp 6) (.tmp 14) rfl rfl w4.heap.size y _ rfl rfl (a8j w4) ?_;intro w5 hA hB hZ;have A5:=ι hA;have B5:=ι (B4.out.trans (((a0b (Below.refl w4.heap.size w4) (.cells #[.string { data := #[] },.bool false,.string { data := #[] }] 35)).trans hB).mono B4.out.size));have Z5:=ι (show w4.heap.size<w5.heap.size by rw[hZ,World.size_alloc];omega);clear hA hB hZ;refine a2a ?_))
     have d0:=A5.out.c0
     have d1:=A5.out.c1
     have d2:=A5.out.c2
     gi_upto_region 7 with(first
      | (refine⟨trivial,?_⟩;gi_at_call 43;refine(a2o (HCV.out _ B5.out)).mono ?_;rintro e w6 ⟨rfl,hb⟩;have A6:Hid (AtN w6 w4.heap.size y):=ι ((hb.block _ Z5.out).trans A5.out);have e0:=A6.out.c0;have e1:=A6.out.c1;have e2:=A6.out.c2;have B6:=ι (a0a B5.out hb);clear hb))
     gi_upto_region 8 with(first
      | (refine⟨trivial,?_⟩;gi_at_call 51;refine(a2o (HCL.out _)).mono ?_;rintro e w7 ⟨rfl,hb⟩;have A7:Hid (AtN w7 w4.heap.size y):=ι ((hb.block _ A6.out.lt).trans A6.out);have B7:=ι (a0a B6.out hb);have g0:=A7.out.c0;have g1:=b5c A7.out 0;clear hb))
     have B8:Hid (Below Vx.heap.size Vx (w7.setCell ⟨w4.heap.size,0,none⟩ (.string y.path))):=ι (b8m B7.out B4.out.size B7.out.size)
     have A8:=ι (nd_setP A7.out)
     generalize w7.setCell ⟨w4.heap.size,0,none⟩ (.string y.path)=w8 at *
     clear d0 d1 d2 e0 e1 e2 g0 g1
     have x0:=A8.out.c0
     have x1:=A8.out.c1
     have x2:=A8.out.c2
     have HI8:=ι (HI.out.later B8.out)
     have cl:=HI8.out.box.cell
     have fl:=HI8.out.box.frozen
     gi_wp2_with (first|(refine a3j rfl ?_;refine a1k a0z (by decide) rfl (.tmp 28) rfl y.c rfl rfl ?_;refine a2a ?_)|(gi_at_builtin;refine a3j rfl ?_;refine a7s a0z rfl (.tmp 27) (.tmp 29) rfl _ n _ rfl (HI8.out.own.alloc _) _ 1 y.c rfl (a1r _ _ _ _ rfl) (fun v hv=>by simp[fs.Nd.c] at hv;rcases hv with rfl|rfl|rfl<;>rfl) (by have:=HN0.out;omega) ?_;intro pa' ca wb hoa hta hla;have hB8:=a3q (HI8.out.box.alloc (.cells y.c.toArray 35)) hta (fun e=>Nat.lt_irrefl _ (HI8.out.low _ e));have c8a:=hB8.cell;have f8a:=hB8.frozen;have HOA:=ι hoa;have HTA:=ι hta;have HLA2:=ι hla;clear hoa hta hla hB8;refine a2a ?_))
     obtain⟨r1,r2⟩:=c0w HI8.out HOA.out HTA.out HLA2.out
     exact⟨⟨_,_,_,_,HN.out,r1,by have:=HNL.out;simp;omega⟩,(Turn.of_below B8.out).trans r2⟩
  ·have HNO:=ι (a9h u Vx HMV.out (by omega) hu10 hu0)
   have HN:=ι hN
   generalize mkB u=x at *
   clear hu0 hu10 hul hN
   gi_upto_region 6 with(first
    | (refine⟨trivial,?_⟩;gi_at_call 50;refine(a2o HNO.out).mono ?_;rintro e w4 ⟨y,rfl,hb⟩;have B4:=ι hb;clear hb)
    | (refine a3j rfl ?_;refine a2j rfl (.tmp 6) (.tmp 14) rfl rfl w4.heap.size y _ rfl rfl (a8j w4) ?_;intro w5 hA hB hZ;have A5:=ι hA;have B5:=ι (B4.out.trans (((a0b (Below.refl w4.heap.size w4) (.cells #[.string { data := #[] },.bool false,.string { data := #[] }] 35)).trans hB).mono B4.out.size));clear hA hB hZ;refine a2a ?_))
   have hlt:=HLT.out
   have j0:Go.Boxed w5 w.heap.size 25 (.slice none 0 0):=(B5.out.block _ (by omega)).trans K0.out
   have j1:Go.Boxed w5 (w.heap.size+1) 4 (.bool false):=(B5.out.block _ (by omega)).trans K1.out
   have j1b:Go.Boxed (w5.setCell ⟨w.heap.size,0,none⟩ (.slice none 0 0)) (w.heap.size+1) 4 (.bool false):=(Below.heap_setCell _ _ _ _ (by show w.heap.size+1≠w.heap.size;omega)).trans j1
   have c0:=j0.cell
   have f0:=j0.frozen
   have c1:=j1b.cell
   have f1:=j1b.frozen
   clear j0 j1 j1b hlt
   gi_wp2
   repeat (refine⟨trivial,?_⟩;gi_wp2)
   exact FIN.out _ B5.out HN.out
 case done =>
  rintro D ys Vx hD rfl ⟨ns,q,n,c,hRd,hI,hl⟩ hK
  have HE:=ι (b9v hRd)
  have cl:=hI.box.cell
  have HI:=ι hI
  have k0:Go.Boxed Vx w.heap.size 25 (.slice none 0 0):=(hI.below.block _ (by omega)).trans HR0.out
  have k1:Go.Boxed Vx (w.heap.size+1) 4 (.bool false):=(hI.below.block _ (by omega)).trans HR1.out
  have f0:=k0.frozen
  have k1b:Go.Boxed (Vx.setCell ⟨w.heap.size,0,none⟩ (.slice q n c)) (w.heap.size+1) 4 (.bool false):=(Below.heap_setCell _ _ _ _ (by show w.heap.size+1≠w.heap.size;omega)).trans k1
  have f1:=k1.frozen
  have f1b:=k1b.frozen
  have c0:=k0.cell
  have c1:=k1.cell
  have c1b:=k1b.cell
  have K1B:=ι k1b
  clear k1b
  have K0:=ι k0
  have K1:=ι k1
  clear hI hl hRd k0 k1
  gi_wp2
  have hwa:=HSa.out
  have ht:dsk.Touch (fun g=>g=w.heap.size∨g=w.heap.size+1) Vx ((Vx.setCell ⟨w.heap.size,0,none⟩ (.slice q n c)).setCell ⟨w.heap.size+1,0,none⟩ (.bool true)):=dsk.Touch.setCell (S:=fun g=>g=w.heap.size∨g=w.heap.size+1) (dsk.Touch.setCell (S:=fun g=>g=w.heap.size∨g=w.heap.size+1) (dsk.Touch.refl _ Vx) ⟨w.heap.size,0,none⟩ (Or.inl rfl) _) ⟨w.heap.size+1,0,none⟩ (Or.inr rfl) _
  have j0:Go.Boxed ((Vx.setCell ⟨w.heap.size,0,none⟩ (.slice q n c)).setCell ⟨w.heap.size+1,0,none⟩ (.bool true)) w.heap.size 25 (.slice q n c):=(Below.heap_setCell _ _ _ _ (by show w.heap.size≠w.heap.size+1;omega)).trans (K0.out.set _)
  have j1:Go.Boxed ((Vx.setCell ⟨w.heap.size,0,none⟩ (.slice q n c)).setCell ⟨w.heap.size+1,0,none⟩ (.bool true)) (w.heap.size+1) 4 (.bool true):=K1B.out.set _
  have jo:rows.Own ((Vx.setCell ⟨w.heap.size,0,none⟩ (.slice q n c)).setCell ⟨w.heap.size+1,0,none⟩ (.bool true)) 0 35 3 (.slice q n c) n (nodesC ns):=dsk.a0i (S:=fun k=>w.heap.size+1+1<k) (dsk.a0i (S:=fun k=>w.heap.size+1+1<k) HI.out.own HI.out.low (dsk.Keeps.set (fun g hg=>by omega) _)) HI.out.low (dsk.Keeps.set (fun g hg=>by omega) _)
  have jb:Below w.heap.size w ((Vx.setCell ⟨w.heap.size,0,none⟩ (.slice q n c)).setCell ⟨w.heap.size+1,0,none⟩ (.bool true)):=(HB1.out.trans (HI.out.below.mono (by omega))).trans (ht.below (by have:=K0.out.lt;omega) fun k hk=>by omega)
  have jD:=(ht.block D (Array.getElem?_eq_some_iff.1 hK).1 (by omega)).trans hK
  generalize (Vx.setCell ⟨w.heap.size,0,none⟩ (.slice q n c)).setCell ⟨w.heap.size+1,0,none⟩ (.bool true)=X at *
  refine a0k (B:=wa.heap.size) (C:=X.heap.size) [D] X ⟨by simp,fun E hE=>by rw[List.mem_singleton.1 hE];exact⟨hD,(Array.getElem?_eq_some_iff.1 jD).1,jD⟩⟩ fun w' hc => ?_
  have q1:=(hc.boxed j0).cell
  have q2:=(hc.boxed j1).cell
  have he:=HE.out
  exact⟨.tuple #[.slice q n c,.bool true],by simp[results,Tryz.f18,go_sem,q1,q2],q,n,c,by rw[he];rfl,jb.trans (hc.below (by omega) jb.size),by rw[he];exact a3x jo hc⟩
 case stop =>
  rintro D c pre Vx hD hp ⟨rfl,hN,hb0,hb1,hbw⟩ hK
  have HP:=ι (And.intro hN (And.intro hb0 (And.intro hb1 hbw)))
  clear hN hb0 hb1 hbw
  gi_wp2
  refine a0k (B:=wa.heap.size) (C:=Vx.heap.size) [D] Vx ⟨by simp,fun E hE=>by rw[List.mem_singleton.1 hE];exact⟨hD,(Array.getElem?_eq_some_iff.1 hK).1,hK⟩⟩ fun w' hc => ?_
  have q1:=(hc.boxed HP.out.2.1).cell
  have q2:=(hc.boxed HP.out.2.2.1).cell
  have he:=HP.out.1
  exact⟨.tuple #[.slice none 0 0,.bool false],by simp[results,Tryz.f18,go_sem,q1,q2],none,0,0,by rw[he];rfl,HP.out.2.2.2.trans (hc.below (by have:=HSa.out;omega) HP.out.2.2.2.size),by rw[he];exact a2b _ _ _ _⟩
end vw
namespace vw
set_option maxRecDepth 100000
open Go.ChangeShapes Go.WideShapes Go.ChangeAt Go.RowKit
open rows
open sec
open fs (Nd nodesC)
open dsk (a7c a4h)
theorem cellsNdN:Tryz.prog.cellsOf 35=3:=by kernel_rfl
theorem cellsBoolN:Tryz.prog.cellsOf 4=1:=by kernel_rfl
theorem cellsStrN:Tryz.prog.cellsOf 9=1:=by kernel_rfl
theorem und_ndN:Tryz.prog.underlying 35=some (.struct (Tryz.prog.fieldsOf 35)):=by kernel_rfl
theorem b8w:Tryz.prog.underlying 25=some (.slice 35):=by kernel_rfl
theorem b3s:(Tryz.prog.fieldsOf 35).toList.map (fun f=>(f.type,f.offset))=[(9,0),(4,1),(9,2)]:=by kernel_rfl
def Nd.sized(x:Nd):Prop:=x.path.size≤maxLen∧x.data.size≤maxLen
section
variable {H:Type} {enc:TypeId×Value→H} {W:World} {base:Nat} {spare:Nat→Bool} {held:Bool}
theorem b1n{n:Nat}{cs:List Value}{x:DataW H×List MemPlace}(h:DataW.trod enc Tryz.prog W base spare held n 35 cs=some x):∃a:Nd,Nd.sized a∧cs=a.c:=by
 obtain⟨hl,hf⟩:=a7c und_ndN b3s h
 rw[cellsNdN] at hl
 obtain⟨_,_,h0⟩:=hf 0 _ _ rfl
 obtain⟨_,_,h1⟩:=hf 1 _ _ rfl
 obtain⟨_,_,h2⟩:=hf 2 _ _ rfl
 rw[cellsStrN] at h0 h2
 rw[cellsBoolN] at h1
 obtain⟨s,e0,_,ws⟩:=DataW.trod_string Tryz.underlying9 h0
 obtain⟨b,e1,_⟩:=DataW.trod_bool Tryz.underlying4 h1
 obtain⟨t,e2,_,wt⟩:=DataW.trod_string Tryz.underlying9 h2
 refine⟨⟨s,b,t⟩,⟨ws,wt⟩,?_⟩
 have q0:=a4h cs 0 1
 have q1:=a4h cs 1 1
 have q2:=a4h cs 2 1
 rw[e0] at q0
 rw[e1] at q1
 rw[e2,List.drop_of_length_le (i:=2+1) (by omega),List.append_nil] at q2
 simp only[Nat.reduceAdd] at q0 q1
 rw[List.drop_zero,← q1,← q2] at q0
 exact q0.symm
theorem nodes_of_trod{p:Option Addr}{len cap:Nat}{d:DataW H}{ps:List MemPlace}
  (h:DataW.Trod enc Tryz.prog W 0 (fun _=>true) true 25 (.slice p len cap) d ps):∃l:List Nd,(∀x∈l,Nd.sized x)∧Rd W 3 (.slice p len cap) len (nodesC l)∧len≤maxLen:=by
 obtain⟨fuel,hf⟩:=h
 obtain⟨p',len',cap',l,hcs,hg,hll,hr,hm⟩:=open_slice Nd.c (by decide) b8w cellsNdN Nd.sized (fun x hx=>rfl) (fun _ _ _ h=>b1n h) hf
 simp[Value.cells] at hcs
 obtain⟨rfl,rfl,rfl⟩:=hcs
 exact⟨l,hg,hr,hm⟩
end
end vw
namespace vw
set_option maxRecDepth 100000
open Go.ChangeShapes Go.WideShapes Go.ChangeAt Go.RowKit
open rows
open sec
open ly
open pa
open lk
open fs (Nd nodesC)
theorem b4x{l:List Nd}(h:∀x∈l,okN x=true):∀c∈textL l,0≤c∧c<256:=by
 intro c hc
 obtain⟨m,hm,hcm⟩:=List.mem_flatten.1 hc
 obtain⟨x,hx,rfl⟩:=List.mem_map.1 hm
 rcases List.mem_append.1 hcm with hcm|hcm
 ·have:=a7t (h x hx) c hcm;omega
 ·rw[List.mem_singleton.1 hcm];omega
theorem b6w{l:List Nd}(h:showOk l=true):∀x∈l,okN x=true:=List.all_eq_true.1 h
theorem b5q{l:List Nd}(h:showOk l=true):rdNodes (bys (showS l))=some l:=by
 rw[showS,if_pos h,a0w (b4x (b6w h))]
 exact a9a l (b6w h)
theorem a9x{l:List Nd}(hl:l.length≤40):(showS l).size≤40000:=by
 unfold showS
 split
 ·rename_i h
  have:=a7z l (b6w h)
  rw[strOfNums_size];omega
 ·exact Nat.zero_le _
theorem a9e:∀l:List Nd,l.length≤(textL l).length
 | []=>Nat.zero_le _
 | x::l=>by
  have:=a9e l
  rw[a2c,List.length_append,List.length_cons,List.length_cons];omega
theorem b7c{s:ByteArray}{ns:List Nd}(h:rdNodes (bys s)=some ns):showOk ns=true∧showS ns=s∧ns.length≤s.size∧∀x∈ns,x.path.size≤100000∧x.data.size≤100000:=by
 obtain⟨h1,h2⟩:=b6i (a0n s) h
 have ho:showOk ns=true:=List.all_eq_true.2 h2
 refine⟨ho,by rw[showS,if_pos ho,h1,a1h],?_,fun x hx => ?_⟩
 ·have:=a9e ns
  rw[h1,a0d] at this
  exact this
 ·obtain⟨a1,a2,_⟩:=(a6j x).1 (h2 x hx)
  have:=(b3j a1).2
  rw[a0d] at this
  exact⟨by omega,by omega⟩
def quoS(s:ByteArray):ByteArray:=strOfNums (quoteL (bys s))
theorem b8u(s:ByteArray):(quoS s).size≤3 * s.size+2:=by
 rw[quoS,strOfNums_size];exact a4r s
theorem c0p(s:ByteArray):unquoteL (bys (quoS s))=some (bys s):=by
 rw[quoS,a0w fun x hx=>by have:=quote_bytes (a0n s) x hx;omega]
 exact a3u _ (a0n s)
theorem b4q{s:ByteArray}{m:List Int}(h:unquoteL (bys s)=some m):quoS (strOfNums m)=s∧(strOfNums m).size≤s.size:=by
 obtain⟨e,hb⟩:=a2q (a0n s) h
 refine⟨by rw[quoS,a0w hb,e,a1h],?_⟩
 have h1:=a3w m
 have h2:=(a4g m).1
 have h3:=a0d s
 rw[← e] at h3
 rw[strOfNums_size];omega
theorem b1o{t:ByteArray}(w:World)(hmx:Mx w)(ht:t.size≤40000):Calls Tryz.prog 18 #[.string t] w fun e w'=>∃q c,e = .returned (.tuple #[.slice q ((rdNodes (bys t)).getD []).length c,.bool (rdNodes (bys t)).isSome])∧Below w.heap.size w w'∧Rd w' 3 (.slice q ((rdNodes (bys t)).getD []).length c) ((rdNodes (bys t)).getD []).length (nodesC ((rdNodes (bys t)).getD [])):=by
 refine(b5i t w hmx ht).mono ?_
 rintro e w' ⟨q,n,c,rfl,hb,ho⟩
 have hr:=ho.rd
 have hl:((rdNodes (bys t)).getD []).length=n:=dsk.Rd.count fs.Nd.c hr (fun x hx=>rfl) (by decide)
 rw[hl]
 exact⟨q,c,rfl,hb,hr⟩
set_option maxRecDepth 1000000 in
set_option maxHeartbeats 8000000 in
theorem walkViewBack(s:ByteArray)(hs:s.size≤maxLen)(p:Option Addr)(n c:Nat)(l:List Nd)(w:World)(hr:Rd w 3 (.slice p n c) n (nodesC l))(hn:n≤maxLen)(hok:∀x∈l,Nd.sized x)(hmx:Mx w) :
  Calls Tryz.prog 5 #[.string s,.slice p n c] w (Rt w (.bool true)):=by
 have HK:=ι fun w' (hb:Below w.heap.size w w')=>knows14 w' (hmx.later hb)
 have hn9:(n:Int)≤9223372036854775807:=by unfold maxLen at hn;omega
 have hs9:(s.size:Int)≤9223372036854775807:=by unfold maxLen at hs;omega
 by_cases hbig:1000<s.size∨40<n
 ·have h3:1000<s.size∨(s.size≤1000∧40<n):=by omega
  clear hr hbig hok hs hn
  rcases h3 with h|⟨h,h'⟩
  all_goals
   first|(have j1:(1000:Int)<s.size:=by omega)|(have j1:(s.size:Int)≤1000:=by omega)
   first|(have j2:(40:Int)<n:=by omega)|skip
   go_enter Tryz.func5,Tryz.ntmps5
   go_wp2_with (go_at_call 8;refine(HK.out _ (Below.refl _ _)).mono ?_;rintro e w2 ⟨rfl,hb2⟩)
   go_ret
   exact⟨rfl,hb2⟩
 ·have j1:(s.size:Int)≤1000:=by omega
  have j2:(n:Int)≤40:=by omega
  have j3:s.size≤1000:=by omega
  have j4:n≤40:=by omega
  have HR:=ι hr
  have hl:l.length=n:=dsk.Rd.count fs.Nd.c hr (fun _ _=>rfl) (by decide)
  have HL:=ι hl
  have HOK:=ι hok
  have HMX:=ι hmx
  clear hbig hr hl hok hs hn hmx
  go_enter Tryz.func5,Tryz.ntmps5
  go_upto_region 4 with(go_at_call 8;refine(HK.out _ (Below.refl _ _)).mono ?_;rintro e w1 ⟨rfl,hb⟩;have B1:=ι (show Below w.heap.size w w1 from hb);clear hb)
  go_loop [5] (fun iv=>∃i:Nat,i≤n∧iv = .int .i64 (i:Int)∧Hid (∀x∈l.take i,x.path.size≤100000∧x.data.size≤100000)) (fun iv=>n-(intOf iv).toNat)
  case atStart=>exact⟨0,by omega,rfl,ι fun x hx=>(nomatch hx)⟩
  case round =>
   obtain⟨i,hi,rfl,HZ⟩:=hrel
   by_cases hlt:i<n
   ·have hlti:(i:Int)<n:=by omega
    have hil:i<l.length:=by rw[HL.out];exact hlt
    obtain⟨b1,o1,rfl,hc1,hm1,hh1,hl1,HR1⟩:=dsk.Rd.chunk fs.Nd.c HR.out (fun _ _=>rfl) (by decide) hlt
    have HRNG:=ι (Rd.rangeLater (HR1 i hil) hh1 B1.out)
    have hxok:=HOK.out _ (List.getElem_mem hil)
    have HZ1:Hid (l[i].path.size≤100000∧l[i].data.size≤100000→∀x∈l.take (i+1),x.path.size≤100000∧x.data.size≤100000):=ι fun h x hx=>by
     rw[List.take_succ_eq_append_getElem hil] at hx
     rcases List.mem_append.1 hx with hx|hx
     ·exact HZ.out x hx
     ·rw[List.mem_singleton.1 hx];exact h
    generalize l[i]=x at *
    obtain⟨px,dx,bx⟩:=x
    obtain⟨hp9,hd9⟩:=hxok
    simp only at hp9 hd9
    have e0:w1.cell? ⟨b1,o1+i * 3,none⟩=some (.string px):=by simpa using HRNG.out 0 _ rfl
    have e1:w1.cell? ⟨b1,o1+i * 3+1,none⟩=some (.bool dx):=by simpa using HRNG.out 1 _ rfl
    have e2:w1.cell? ⟨b1,o1+i * 3+2,none⟩=some (.string bx):=by simpa using HRNG.out 2 _ rfl
    have hpi:(px.size:Int)≤9223372036854775807:=by unfold maxLen at hp9;omega
    have hdi:(bx.size:Int)≤9223372036854775807:=by unfold maxLen at hd9;omega
    clear HR1 hl1 hp9 hd9
    by_cases h200:200<px.size
    ·have k1:(200:Int)<px.size:=by omega
     go_wp2_with fail
     go_ret
     exact⟨rfl,B1.out⟩
    ·have k1:(px.size:Int)≤200:=by omega
     by_cases h500:500<bx.size
     ·have k2:(500:Int)<bx.size:=by omega
      go_wp2_with fail
      go_ret
      exact⟨rfl,B1.out⟩
     ·have k2:(bx.size:Int)≤500:=by omega
      have HZ2:=ι (HZ1.out ⟨by show px.size≤100000;omega,by show bx.size≤100000;omega⟩)
      clear HZ1 HZ h200 h500
      go_wp2_with fail
      go_round
      case rel=>exact⟨i+1,by omega,by go_num,HZ2⟩
      case measure=>simp[intOf];omega
   ·obtain rfl:i=n:=by omega
    have hz:∀x∈l,x.path.size≤100000∧x.data.size≤100000:=by
     have:=HZ.out
     rw[← HL.out,List.take_length] at this
     exact this
    have hlL:l.length≤40:=by rw[HL.out];exact j4
    have hqz:=b8u s
    have Q1:Hid (∀w',Calls Tryz.prog 20 #[.string s] w' fun e w2=>e = .returned (.string (quoS s))∧Below w'.heap.size w' w2):=ι fun w'=>a4p s w' (by omega)
    have U1:Hid (∀w',Calls Tryz.prog 14 #[.string (quoS s)] w' fun e w2=>e = .returned (.tuple #[.string s,.bool true])∧Below w'.heap.size w' w2):=ι fun w'=>by
     have h:=a1t (quoS s) w' (by omega)
     rw[c0p s] at h
     simp only[Option.getD_some,Option.isSome_some,a1h] at h
     exact h
    have S1:Hid (∀w',Below w.heap.size w w'→Calls Tryz.prog 16 #[.slice p i c] w' fun e w2=>e = .returned (.tuple #[.string (showS l),.bool (showOk l)])∧Below w'.heap.size w' w2):=ι fun w' hb=>a4c p i c l w' (HMX.out.later hb) (HR.out.later hb) (by omega) hz
    have R1F:Hid (∀w',Below w.heap.size w w'→Calls Tryz.prog 18 #[.string (showS l)] w' fun e w2=>∃q m c has,e = .returned (.tuple #[.slice q m c,.bool has])∧Below w'.heap.size w' w2):=ι fun w' hb =>
     (b1o w' (HMX.out.later hb) (a9x hlL)).mono fun e w2 ⟨q,c,h1,h2,h3⟩=>⟨q,_,c,_,h1,h2⟩
    have R1T:showOk l=true→Hid (∀w',Below w.heap.size w w'→Calls Tryz.prog 18 #[.string (showS l)] w' fun e w2=>∃q c,e = .returned (.tuple #[.slice q i c,.bool true])∧Below w'.heap.size w' w2∧Rd w2 3 (.slice q i c) i (nodesC l)):=fun ho=>ι fun w' hb=>by
     refine(b1o w' (HMX.out.later hb) (a9x hlL)).mono ?_
     rintro e w2 ⟨q,c,h1,hb2,hr2⟩
     have h:=b5q ho
     rw[h] at hr2 h1
     simp only[Option.getD_some,HL.out] at hr2 h1
     exact⟨q,c,h1,hb2,hr2⟩
    have M1:Hid (∀w' q c2,Below w.heap.size w w'→Rd w' 3 (.slice q i c2) i (nodesC l)→Calls Tryz.prog 13 #[.slice p i c,.slice q i c2] w' fun e w2=>e = .returned (.bool true)∧Below w'.heap.size w' w2):=ι fun w' q c2 hb hr2=>by
     have h:=b6o p i c l q i c2 l w' (HR.out.later hb) hr2 (by omega) (by omega)
     rw[decide_eq_true rfl] at h
     exact h
    have U2:=ι fun w'=>a1t s w' (by omega)
    have Q2:Hid (∀m,unquoteL (bys s)=some m→∀w',Calls Tryz.prog 20 #[.string (strOfNums m)] w' fun e w2=>e = .returned (.string s)∧Below w'.heap.size w' w2):=ι fun m hm w'=>by
     have h1:=b4q hm
     have h:=a4p (strOfNums m) w' (by omega)
     change Calls Tryz.prog _ _ _ fun e w2=>e = .returned (.string (quoS (strOfNums m)))∧Below w'.heap.size w' w2 at h
     rw[h1.1] at h
     exact h
    have R2:=ι fun w' (hb:Below w.heap.size w w')=>b1o (t:=s) w' (HMX.out.later hb) (by omega)
    have S2F:(rdNodes (bys s)).isSome=false→Hid (∀w' q c2,Below w.heap.size w w'→Rd w' 3 (.slice q ((rdNodes (bys s)).getD []).length c2) ((rdNodes (bys s)).getD []).length (nodesC ((rdNodes (bys s)).getD []))→Calls Tryz.prog 16 #[.slice q ((rdNodes (bys s)).getD []).length c2] w' fun e w2=>∃u can,e = .returned (.tuple #[.string u,.bool can])∧Below w'.heap.size w' w2):=fun h=>ι fun w' q c2 hb hr2=>by
     cases hd:rdNodes (bys s) with
     | none =>
      rw[hd] at hr2
      exact(a4c q _ c2 [] w' (HMX.out.later hb) hr2 (by simp) (fun x hx=>(nomatch hx))).mono fun e w2 h=>⟨_,_,h.1,h.2⟩
     | some ns=>rw[hd] at h;cases h
    have S2T:(rdNodes (bys s)).isSome=true→Hid (∀w' q c2,Below w.heap.size w w'→Rd w' 3 (.slice q ((rdNodes (bys s)).getD []).length c2) ((rdNodes (bys s)).getD []).length (nodesC ((rdNodes (bys s)).getD []))→Calls Tryz.prog 16 #[.slice q ((rdNodes (bys s)).getD []).length c2] w' fun e w2=>e = .returned (.tuple #[.string s,.bool true])∧Below w'.heap.size w' w2):=fun h=>ι fun w' q c2 hb hr2=>by
     cases hd:rdNodes (bys s) with
     | none=>rw[hd] at h;cases h
     | some ns =>
      rw[hd] at hr2
      obtain⟨g1,g2,g3,g4⟩:=b7c hd
      have h:=a4c q _ c2 ns w' (HMX.out.later hb) hr2 (by simp only[Option.getD_some];omega) g4
      rw[g1,g2] at h
      exact h
    have U2':∃b is,Hid (∀w',Calls Tryz.prog 14 #[.string s] w' fun e w2=>e = .returned (.tuple #[.string b,.bool is])∧Below w'.heap.size w' w2)∧Hid (is=true→∀w',Calls Tryz.prog 20 #[.string b] w' fun e w2=>e = .returned (.string s)∧Below w'.heap.size w' w2):=by
     cases hm:unquoteL (bys s) with
     | none=>exact⟨_,_,U2,ι fun h=>by rw[hm] at h;cases h⟩
     | some m=>exact⟨_,_,U2,ι fun h=>by rw[hm];exact Q2.out m hm⟩
    clear U2 Q2
    obtain⟨b,is,U2,Q2⟩:=U2'
    have hN0:(rdNodes (bys s)).isSome=false→((rdNodes (bys s)).getD []).length=0:=fun h=>by
     cases hd:rdNodes (bys s) with
     | none=>rfl
     | some ns=>rw[hd] at h;cases h
    clear hz hlL hqz HZ HOK
    generalize quoS s=qs at *
    generalize showS l=t at *
    generalize showOk l=may at *
    generalize (rdNodes (bys s)).isSome=had at *
    generalize (rdNodes (bys s)).getD []=NS at *
    obtain⟨N,hN⟩:∃N,NS.length=N:=⟨_,rfl⟩
    rw[hN] at R2 S2F S2T hN0
    clear hN
    rcases Bool.eq_false_or_eq_true may with rfl|rfl
    all_goals rcases Bool.eq_false_or_eq_true had with rfl|rfl
    all_goals rcases Bool.eq_false_or_eq_true is with rfl|rfl
    ·have R1:=R1T rfl;have S2:=S2T rfl;have Q3:=ι (Q2.out rfl);clear Q2;clear R1T R1F S2T S2F hN0
     go_wp2_with (first
      | (go_at_call 20;with_reducible refine(Q1.out _).mono ?_;rintro e w2 ⟨rfl,hb⟩;have B2:=ι (a0a B1.out hb);clear hb)
      | (go_at_call 14;with_reducible refine(U1.out _).mono ?_;rintro e w3 ⟨rfl,hb⟩;have B3:=ι (a0a B2.out hb);clear hb)
      | (go_at_call 14;with_reducible refine(U2.out _).mono ?_;rintro e w4 ⟨rfl,hb⟩;have B4:=ι (a0a B3.out hb);clear hb)
      | (go_at_call 16;with_reducible refine(S1.out _ B4.out).mono ?_;rintro e w5 ⟨rfl,hb⟩;have B5:=ι (a0a B4.out hb);clear hb)
      | (go_at_call 18;with_reducible refine(R1.out _ B5.out).mono ?_;rintro e w6 ⟨q6,c6,rfl,hb,hr⟩;have B6:=ι (a0a B5.out hb);have R6:=ι hr;clear hb hr)
      | (go_at_call 18;with_reducible refine(R2.out _ B6.out).mono ?_;rintro e w7 ⟨q7,c7,rfl,hb,hr⟩;have B7:=ι (a0a B6.out hb);have R7:=ι hr;have R67:=ι (R6.out.later hb);clear hb hr)
      | (go_at_call 16;with_reducible refine(S2.out _ _ _ B7.out R7.out).mono ?_;rintro e w8 ⟨rfl,hb⟩;have B8:=ι (a0a B7.out hb);have R68:=ι (R67.out.later hb);clear hb)
      | (go_at_call 20;with_reducible refine(Q3.out _).mono ?_;rintro e w9 ⟨rfl,hb⟩;have B9:=ι (a0a B8.out hb);have R69:=ι (R68.out.later hb);clear hb)
      | (go_at_call 13;refine(M1.out _ _ _ B9.out R69.out).mono ?_;rintro e w10 ⟨rfl,hb⟩;have B10:=ι (a0a B9.out hb);clear hb))
     go_ret
     first|exact⟨rfl,B10.out⟩|exact⟨rfl,B9.out⟩|exact⟨rfl,B8.out⟩
    ·have R1:=R1T rfl;have S2:=S2T rfl;clear R1T R1F S2T S2F hN0
     go_wp2_with (first
      | (go_at_call 20;with_reducible refine(Q1.out _).mono ?_;rintro e w2 ⟨rfl,hb⟩;have B2:=ι (a0a B1.out hb);clear hb)
      | (go_at_call 14;with_reducible refine(U1.out _).mono ?_;rintro e w3 ⟨rfl,hb⟩;have B3:=ι (a0a B2.out hb);clear hb)
      | (go_at_call 14;with_reducible refine(U2.out _).mono ?_;rintro e w4 ⟨rfl,hb⟩;have B4:=ι (a0a B3.out hb);clear hb)
      | (go_at_call 16;with_reducible refine(S1.out _ B4.out).mono ?_;rintro e w5 ⟨rfl,hb⟩;have B5:=ι (a0a B4.out hb);clear hb)
      | (go_at_call 18;with_reducible refine(R1.out _ B5.out).mono ?_;rintro e w6 ⟨q6,c6,rfl,hb,hr⟩;have B6:=ι (a0a B5.out hb);have R6:=ι hr;clear hb hr)
      | (go_at_call 18;with_reducible refine(R2.out _ B6.out).mono ?_;rintro e w7 ⟨q7,c7,rfl,hb,hr⟩;have B7:=ι (a0a B6.out hb);have R7:=ι hr;have R67:=ι (R6.out.later hb);clear hb hr)
      | (go_at_call 16;with_reducible refine(S2.out _ _ _ B7.out R7.out).mono ?_;rintro e w8 ⟨rfl,hb⟩;have B8:=ι (a0a B7.out hb);have R68:=ι (R67.out.later hb);clear hb)
      | (go_at_call 20;with_reducible refine(Q3.out _).mono ?_;rintro e w9 ⟨rfl,hb⟩;have B9:=ι (a0a B8.out hb);have R69:=ι (R68.out.later hb);clear hb)
      | (go_at_call 13;refine(M1.out _ _ _ B8.out R68.out).mono ?_;rintro e w10 ⟨rfl,hb⟩;have B10:=ι (a0a B8.out hb);clear hb))
     go_ret
     first|exact⟨rfl,B10.out⟩|exact⟨rfl,B9.out⟩|exact⟨rfl,B8.out⟩
    ·have R1:=R1T rfl;have S2:=S2F rfl;have e2:=hN0 rfl;subst e2;have Q3:=ι (Q2.out rfl);clear Q2;clear R1T R1F S2T S2F hN0
     go_wp2_with (first
      | (go_at_call 20;with_reducible refine(Q1.out _).mono ?_;rintro e w2 ⟨rfl,hb⟩;have B2:=ι (a0a B1.out hb);clear hb)
      | (go_at_call 14;with_reducible refine(U1.out _).mono ?_;rintro e w3 ⟨rfl,hb⟩;have B3:=ι (a0a B2.out hb);clear hb)
      | (go_at_call 14;with_reducible refine(U2.out _).mono ?_;rintro e w4 ⟨rfl,hb⟩;have B4:=ι (a0a B3.out hb);clear hb)
      | (go_at_call 16;with_reducible refine(S1.out _ B4.out).mono ?_;rintro e w5 ⟨rfl,hb⟩;have B5:=ι (a0a B4.out hb);clear hb)
      | (go_at_call 18;with_reducible refine(R1.out _ B5.out).mono ?_;rintro e w6 ⟨q6,c6,rfl,hb,hr⟩;have B6:=ι (a0a B5.out hb);have R6:=ι hr;clear hb hr)
      | (go_at_call 18;with_reducible refine(R2.out _ B6.out).mono ?_;rintro e w7 ⟨q7,c7,rfl,hb,hr⟩;have B7:=ι (a0a B6.out hb);have R7:=ι hr;have R67:=ι (R6.out.later hb);clear hb hr)
      | (go_at_call 16;with_reducible refine(S2.out _ _ _ B7.out R7.out).mono ?_;rintro e w8 ⟨u,can,rfl,hb⟩;have B8:=ι (a0a B7.out hb);have R68:=ι (R67.out.later hb);clear hb)
      | (go_at_call 20;with_reducible refine(Q3.out _).mono ?_;rintro e w9 ⟨rfl,hb⟩;have B9:=ι (a0a B8.out hb);have R69:=ι (R68.out.later hb);clear hb)
      | (go_at_call 13;refine(M1.out _ _ _ B9.out R69.out).mono ?_;rintro e w10 ⟨rfl,hb⟩;have B10:=ι (a0a B9.out hb);clear hb))
     go_ret
     first|exact⟨rfl,B10.out⟩|exact⟨rfl,B9.out⟩|exact⟨rfl,B8.out⟩
    ·have R1:=R1T rfl;have S2:=S2F rfl;have e2:=hN0 rfl;subst e2;clear R1T R1F S2T S2F hN0
     go_wp2_with (first
      | (go_at_call 20;with_reducible refine(Q1.out _).mono ?_;rintro e w2 ⟨rfl,hb⟩;have B2:=ι (a0a B1.out hb);clear hb)
      | (go_at_call 14;with_reducible refine(U1.out _).mono ?_;rintro e w3 ⟨rfl,hb⟩;have B3:=ι (a0a B2.out hb);clear hb)
      | (go_at_call 14;with_reducible refine(U2.out _).mono ?_;rintro e w4 ⟨rfl,hb⟩;have B4:=ι (a0a B3.out hb);clear hb)
      | (go_at_call 16;with_reducible refine(S1.out _ B4.out).mono ?_;rintro e w5 ⟨rfl,hb⟩;have B5:=ι (a0a B4.out hb);clear hb)
      | (go_at_call 18;with_reducible refine(R1.out _ B5.out).mono ?_;rintro e w6 ⟨q6,c6,rfl,hb,hr⟩;have B6:=ι (a0a B5.out hb);have R6:=ι hr;clear hb hr)
      | (go_at_call 18;with_reducible refine(R2.out _ B6.out).mono ?_;rintro e w7 ⟨q7,c7,rfl,hb,hr⟩;have B7:=ι (a0a B6.out hb);have R7:=ι hr;have R67:=ι (R6.out.later hb);clear hb hr)
      | (go_at_call 16;with_reducible refine(S2.out _ _ _ B7.out R7.out).mono ?_;rintro e w8 ⟨u,can,rfl,hb⟩;have B8:=ι (a0a B7.out hb);have R68:=ι (R67.out.later hb);clear hb)
      | (go_at_call 20;with_reducible refine(Q3.out _).mono ?_;rintro e w9 ⟨rfl,hb⟩;have B9:=ι (a0a B8.out hb);have R69:=ι (R68.out.later hb);clear hb)
      | (go_at_call 13;refine(M1.out _ _ _ B8.out R68.out).mono ?_;rintro e w10 ⟨rfl,hb⟩;have B10:=ι (a0a B8.out hb);clear hb))
     go_ret
     first|exact⟨rfl,B10.out⟩|exact⟨rfl,B9.out⟩|exact⟨rfl,B8.out⟩
    ·have R1:=R1F;have S2:=S2T rfl;have Q3:=ι (Q2.out rfl);clear Q2;clear R1T R1F S2T S2F hN0
     go_wp2_with (first
      | (go_at_call 20;with_reducible refine(Q1.out _).mono ?_;rintro e w2 ⟨rfl,hb⟩;have B2:=ι (a0a B1.out hb);clear hb)
      | (go_at_call 14;with_reducible refine(U1.out _).mono ?_;rintro e w3 ⟨rfl,hb⟩;have B3:=ι (a0a B2.out hb);clear hb)
      | (go_at_call 14;with_reducible refine(U2.out _).mono ?_;rintro e w4 ⟨rfl,hb⟩;have B4:=ι (a0a B3.out hb);clear hb)
      | (go_at_call 16;with_reducible refine(S1.out _ B4.out).mono ?_;rintro e w5 ⟨rfl,hb⟩;have B5:=ι (a0a B4.out hb);clear hb)
      | (go_at_call 18;with_reducible refine(R1.out _ B5.out).mono ?_;rintro e w6 ⟨q6,m6,c6,has,rfl,hb⟩;have B6:=ι (a0a B5.out hb);clear hb)
      | (go_at_call 18;with_reducible refine(R2.out _ B6.out).mono ?_;rintro e w7 ⟨q7,c7,rfl,hb,hr⟩;have B7:=ι (a0a B6.out hb);have R7:=ι hr;clear hb hr)
      | (go_at_call 16;with_reducible refine(S2.out _ _ _ B7.out R7.out).mono ?_;rintro e w8 ⟨rfl,hb⟩;have B8:=ι (a0a B7.out hb);clear hb)
      | (go_at_call 20;with_reducible refine(Q3.out _).mono ?_;rintro e w9 ⟨rfl,hb⟩;have B9:=ι (a0a B8.out hb);clear hb))
     go_ret
     first|exact⟨rfl,B10.out⟩|exact⟨rfl,B9.out⟩|exact⟨rfl,B8.out⟩
    ·have R1:=R1F;have S2:=S2T rfl;clear R1T R1F S2T S2F hN0
     go_wp2_with (first
      | (go_at_call 20;with_reducible refine(Q1.out _).mono ?_;rintro e w2 ⟨rfl,hb⟩;have B2:=ι (a0a B1.out hb);clear hb)
      | (go_at_call 14;with_reducible refine(U1.out _).mono ?_;rintro e w3 ⟨rfl,hb⟩;have B3:=ι (a0a B2.out hb);clear hb)
      | (go_at_call 14;with_reducible refine(U2.out _).mono ?_;rintro e w4 ⟨rfl,hb⟩;have B4:=ι (a0a B3.out hb);clear hb)
      | (go_at_call 16;with_reducible refine(S1.out _ B4.out).mono ?_;rintro e w5 ⟨rfl,hb⟩;have B5:=ι (a0a B4.out hb);clear hb)
      | (go_at_call 18;with_reducible refine(R1.out _ B5.out).mono ?_;rintro e w6 ⟨q6,m6,c6,has,rfl,hb⟩;have B6:=ι (a0a B5.out hb);clear hb)
      | (go_at_call 18;with_reducible refine(R2.out _ B6.out).mono ?_;rintro e w7 ⟨q7,c7,rfl,hb,hr⟩;have B7:=ι (a0a B6.out hb);have R7:=ι hr;clear hb hr)
      | (go_at_call 16;with_reducible refine(S2.out _ _ _ B7.out R7.out).mono ?_;rintro e w8 ⟨rfl,hb⟩;have B8:=ι (a0a B7.out hb);clear hb)
      | (go_at_call 20;with_reducible refine(Q3.out _).mono ?_;rintro e w9 ⟨rfl,hb⟩;have B9:=ι (a0a B8.out hb);clear hb))
     go_ret
     first|exact⟨rfl,B10.out⟩|exact⟨rfl,B9.out⟩|exact⟨rfl,B8.out⟩
    ·have R1:=R1F;have S2:=S2F rfl;have e2:=hN0 rfl;subst e2;have Q3:=ι (Q2.out rfl);clear Q2;clear R1T R1F S2T S2F hN0
     go_wp2_with (first
      | (go_at_call 20;with_reducible refine(Q1.out _).mono ?_;rintro e w2 ⟨rfl,hb⟩;have B2:=ι (a0a B1.out hb);clear hb)
      | (go_at_call 14;with_reducible refine(U1.out _).mono ?_;rintro e w3 ⟨rfl,hb⟩;have B3:=ι (a0a B2.out hb);clear hb)
      | (go_at_call 14;with_reducible refine(U2.out _).mono ?_;rintro e w4 ⟨rfl,hb⟩;have B4:=ι (a0a B3.out hb);clear hb)
      | (go_at_call 16;with_reducible refine(S1.out _ B4.out).mono ?_;rintro e w5 ⟨rfl,hb⟩;have B5:=ι (a0a B4.out hb);clear hb)
      | (go_at_call 18;with_reducible refine(R1.out _ B5.out).mono ?_;rintro e w6 ⟨q6,m6,c6,has,rfl,hb⟩;have B6:=ι (a0a B5.out hb);clear hb)
      | (go_at_call 18;with_reducible refine(R2.out _ B6.out).mono ?_;rintro e w7 ⟨q7,c7,rfl,hb,hr⟩;have B7:=ι (a0a B6.out hb);have R7:=ι hr;clear hb hr)
      | (go_at_call 16;with_reducible refine(S2.out _ _ _ B7.out R7.out).mono ?_;rintro e w8 ⟨u,can,rfl,hb⟩;have B8:=ι (a0a B7.out hb);clear hb)
      | (go_at_call 20;with_reducible refine(Q3.out _).mono ?_;rintro e w9 ⟨rfl,hb⟩;have B9:=ι (a0a B8.out hb);clear hb))
     go_ret
     first|exact⟨rfl,B10.out⟩|exact⟨rfl,B9.out⟩|exact⟨rfl,B8.out⟩
    ·have R1:=R1F;have S2:=S2F rfl;have e2:=hN0 rfl;subst e2;clear R1T R1F S2T S2F hN0
     go_wp2_with (first
      | (go_at_call 20;with_reducible refine(Q1.out _).mono ?_;rintro e w2 ⟨rfl,hb⟩;have B2:=ι (a0a B1.out hb);clear hb)
      | (go_at_call 14;with_reducible refine(U1.out _).mono ?_;rintro e w3 ⟨rfl,hb⟩;have B3:=ι (a0a B2.out hb);clear hb)
      | (go_at_call 14;with_reducible refine(U2.out _).mono ?_;rintro e w4 ⟨rfl,hb⟩;have B4:=ι (a0a B3.out hb);clear hb)
      | (go_at_call 16;with_reducible refine(S1.out _ B4.out).mono ?_;rintro e w5 ⟨rfl,hb⟩;have B5:=ι (a0a B4.out hb);clear hb)
      | (go_at_call 18;with_reducible refine(R1.out _ B5.out).mono ?_;rintro e w6 ⟨q6,m6,c6,has,rfl,hb⟩;have B6:=ι (a0a B5.out hb);clear hb)
      | (go_at_call 18;with_reducible refine(R2.out _ B6.out).mono ?_;rintro e w7 ⟨q7,c7,rfl,hb,hr⟩;have B7:=ι (a0a B6.out hb);have R7:=ι hr;clear hb hr)
      | (go_at_call 16;with_reducible refine(S2.out _ _ _ B7.out R7.out).mono ?_;rintro e w8 ⟨u,can,rfl,hb⟩;have B8:=ι (a0a B7.out hb);clear hb)
      | (go_at_call 20;with_reducible refine(Q3.out _).mono ?_;rintro e w9 ⟨rfl,hb⟩;have B9:=ι (a0a B8.out hb);clear hb))
     go_ret
     first|exact⟨rfl,B10.out⟩|exact⟨rfl,B9.out⟩|exact⟨rfl,B8.out⟩
end vw
end Go.Proofs.YtjedjkjhodgidaaGreatDoor
