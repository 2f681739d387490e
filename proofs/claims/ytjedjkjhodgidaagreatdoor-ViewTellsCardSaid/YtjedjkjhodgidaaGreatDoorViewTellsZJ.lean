/- What ViewTells wants, part 36. -/
import Derived.Test.YtjedjkjhodgidaaGreatDoorViewTellsB
import Derived.Test.YtjedjkjhodgidaaGreatDoorViewTellsC
import Derived.Test.YtjedjkjhodgidaaGreatDoorViewTellsS
import Derived.Test.YtjedjkjhodgidaaGreatDoorViewTellsZD
import Derived.Test.YtjedjkjhodgidaaGreatDoorViewTellsZE
import Derived.Test.YtjedjkjhodgidaaGreatDoorViewTellsZI
set_option linter.unusedVariables false
set_option linter.unusedSimpArgs false
namespace Go.Proofs.YtjedjkjhodgidaaGreatDoor
namespace vw
set_option maxRecDepth 100000
open Go.ChangeShapes Go.WideShapes Go.ChangeAt Go.RowKit
open rows
open sec
open ly
open pa
open lk
open fs (Nd nodesC a1m a1z)
open dsk (Wr Wr.ok Wr.c wrsC elem_wrs a2s a3e)
theorem a7n(d:Value)(ss:List (List Int))(w:World)(hd:Dk w d ss) :
  Calls Tryz.prog 9 #[d] w fun e w'=>∃q c,e = .returned (.tuple #[.slice q (treeV ss).length c,.bool (wholeB ss)])∧Below w.heap.size w w'∧Rd w' 3 (.slice q (treeV ss).length c) (treeV ss).length (nodesC (treeV ss)):=by
 obtain⟨p,rfl⟩:=b7t hd
 refine(b8c p ss w hd).mono ?_
 rintro e w' ⟨q,n,c,rfl,hb,ho⟩
 have hr:=ho.rd
 have hl:(treeV ss).length=n:=dsk.Rd.count fs.Nd.c hr (fun x hx=>rfl) (by decide)
 rw[hl]
 exact⟨q,c,rfl,hb,hr⟩
theorem b2b(w:World)(p:Option Addr)(n c:Nat)(ss:List (List Int))(hr:Rd w 32 (.slice p n c) n (cellsOf ss))(hs:Secs ss)(hn:n≤100000) :
  Calls Tryz.prog 11 #[.slice p n c] w fun e w'=>∃q k,e = .returned (.tuple #[.slice q (treeV ss).length k,.bool (wholeB ss)])∧Rd w' 3 (.slice q (treeV ss).length k) (treeV ss).length (nodesC (treeV ss))∧Below w.heap.size w w':=by
 refine(b8m w p n c ss hr hs hn).mono ?_
 rintro e w' ⟨q,N,k,rfl,hr,hN,hb⟩
 have hl:(treeV ss).length=N:=dsk.Rd.count fs.Nd.c hr (fun x hx=>rfl) (by decide)
 rw[hl]
 exact⟨q,k,rfl,hr,hb⟩
def vkA:List Int:=[1,0,2,1,0,0,0,0,0,0,0,0,0,0,0,0,97]++List.replicate 15 0
def vkB:List Int:=[2]++List.replicate 31 0
def vk1:Wr:=⟨17,vkA,0,0,0⟩
def vk2:Wr:=⟨3,vkB,0,0,0⟩
def vks:List Wr:=[vk1,vk2]
def vkImg:List (List Int):=withL emptyImg vks
theorem vks_ok:∀x∈vks,x.ok:=by
 intro x hx
 rcases List.mem_cons.1 hx with rfl|hx
 ·exact⟨⟨by decide,by decide⟩,WalkArith.wf_i64 (by decide),WalkArith.wf_i64 (by decide),WalkArith.wf_i64 (by decide),WalkArith.wf_i64 (by decide)⟩
 ·rw[List.mem_singleton.1 hx];exact⟨⟨by decide,by decide⟩,WalkArith.wf_i64 (by decide),WalkArith.wf_i64 (by decide),WalkArith.wf_i64 (by decide),WalkArith.wf_i64 (by decide)⟩
def vkN:Nd:=⟨{ data := #[47,97] },true,{ data := #[] }⟩
def vkM:Nd:=⟨{ data := #[47,98] },false,{ data := #[120,7] }⟩
theorem vk_tree:treeV vkImg=[vkN]:=by kernel_rfl
theorem b8w:wholeB vkImg=true:=by kernel_rfl
theorem vk_show:showS [vkM]={ data := #[47,98,32,34,120,92,48,55,34,10] }:=by kernel_rfl
theorem vk_ok:showOk [vkM]=true:=by kernel_rfl
theorem b5o{ops:Array Oper}{rest:List Oper}{o:Oper}{a:Act}{w:World}{Q:Exit→Act→World→Prop}(hgd:o.guard=none)(x y:Operand)(ho:o.op = .buildSlice 23 2 #[(0,x),(1,y)])
  (hx:a.eval x = .agg vk1.c.toArray) (hy:a.eval y = .agg vk2.c.toArray) (h:wpList Tryz.prog ops Q rest (a.put o.dst (.slice (some ⟨w.heap.size,0,none⟩) 2 2)) (w.alloc (.cells (wrsC vks).toArray 78))):wpList Tryz.prog ops Q (o::rest) a w:=by
 obtain⟨ie,hi,hz0,hz1,hz2⟩:=info_parts elem_wrs.info
 refine wpList_plain hgd fun K hK=>wp_buildSlice 23 78 2 #[(0,x),(1,y)] ho (wrsC vks).toArray ie _ elem_wrs.und hi hz0 (by rw[hz1];omega) (by rw[hz1];omega) ?_ (hK _ _ h)
 rw[hz1]
 simp only[List.map_toArray,List.map_cons,List.map_nil,hx,hy]
 kernel_rfl
theorem vks_rd(w:World):Rd (w.alloc (.cells (wrsC vks).toArray 78)) 36 (.slice (some ⟨w.heap.size,0,none⟩) 2 2) 2 (wrsC vks):=by
 refine Or.inr ⟨w.heap.size,0,2,rfl,by omega,Nat.le_refl _,by unfold maxLen;omega,by simp,by kernel_rfl,fun i u hi => ?_⟩
 rw[Nat.zero_add,World.cell?_alloc_new]
 simpa using hi
theorem row_nd{w:World}{q:Option Addr}{n c:Nat}{L:List Nd}(h:Rd w 3 (.slice q n c) n (nodesC L)){j:Nat}(hj:j<n)(hl:L.length=n) :
  ∃b o,q=some ⟨b,o,none⟩∧w.cell? ⟨b,o+j * 3,none⟩=some (.string (L[j]'(by omega)).path)∧w.cell? ⟨b,o+j * 3+1,none⟩=some (.bool (L[j]'(by omega)).dir)∧w.cell? ⟨b,o+j * 3+2,none⟩=some (.string (L[j]'(by omega)).data)∧b<w.heap.size:=by
 obtain⟨b1,o1,rfl,hc1,hmm1,hh1,hl1,HR1⟩:=dsk.Rd.chunk fs.Nd.c h (fun x hx=>rfl) (by decide) hj
 have hg:=HR1 j (by omega)
 exact⟨b1,o1,rfl,by simpa using hg 0 _ rfl,hg 1 _ rfl,hg 2 _ rfl,hh1⟩
set_option maxRecDepth 100000 in
set_option maxHeartbeats 3200000 in
theorem knows14(w:World)(hmx:Mx w):Calls Tryz.prog 8 #[] w (Rt w (.bool true)):=by
 have HMX:=ι hmx
 have KT:=ι fun w' d (hd:Dk w' d vkImg)=>by
  have h:=a7n d vkImg w' hd
  rw[vk_tree,b8w] at h
  exact(show Calls Tryz.prog 9 #[d] w' fun e w''=>∃q c,e = .returned (.tuple #[.slice q 1 c,.bool true])∧Below w'.heap.size w' w''∧Rd w'' 3 (.slice q 1 c) 1 (nodesC [vkN]) from h)
 have KS:=ι fun w' q c (hm:Mx w') (hr:Rd w' 3 (.slice q 1 c) 1 (nodesC [vkM]))=>by
  have h:=b6h q 1 c [vkM] w' hm hr (by omega) (fun x hx=>by rw[List.mem_singleton.1 hx];exact⟨by decide,by decide⟩)
  rw[vk_show,vk_ok] at h
  exact h
 clear hmx
 go_enter Tryz.func8,Tryz.ntmps8
 go_wp2_with (first
  | (go_at_call 30;refine(b4a _).mono ?_;rintro e w1 ⟨p1,c1,rfl,hr,hb⟩;have B1:=ι (show Below w.heap.size w w1 from hb);have R1:=ι hr;clear hb hr)
  | (refine wpList_buildTo rfl 74 #[(0,.const (.int .u8 1)),(1,.const (.int .u8 0)),(2,.const (.int .u8 2)),(3,.const (.int .u8 1)),(16,.const (.int .u8 97))] rfl (some 7) rfl (u8s vkA).toArray (by kernel_rfl) ?_)
  | (refine wpList_buildTo rfl 78 #[(0,.const (.int .i64 17)),(1,.tmp 7)] rfl (some 8) rfl vk1.c.toArray (by kernel_rfl) ?_)
  | (refine wpList_buildTo rfl 74 #[(0,.const (.int .u8 2))] rfl (some 9) rfl (u8s vkB).toArray (by kernel_rfl) ?_)
  | (refine wpList_buildTo rfl 78 #[(0,.const (.int .i64 3)),(1,.tmp 9)] rfl (some 10) rfl vk2.c.toArray (by kernel_rfl) ?_)
  | (refine b5o rfl (.tmp 8) (.tmp 10) rfl rfl rfl ?_)
  | (go_at_call 10;refine(b2q p1 65 c1 emptyImg _ 2 2 vks _ (R1.out.later (a0a (Below.refl _ _) _)) a4s (by omega) (vks_rd _) vks_ok (by omega)).mono ?_;rintro e w2 ⟨d,rfl,hd,hb⟩;have B2:=ι (a0b B1.out (a0b (a0a (Below.refl _ _) _) hb));have D2:Hid (Dk w2 d vkImg):=ι hd;clear hb hd)
  | (go_at_call 9;refine(KT.out _ _ D2.out).mono ?_;rintro e w3 ⟨q3,c3,rfl,hb,hr⟩;have B3:=ι (a0b B2.out hb);have R3:=ι hr;clear hb hr)
  | (refine a2s a1m (by decide) rfl (.tmp 19) rfl vkM.c rfl rfl ?_)
  | (go_at_call 16;refine(KS.out _ _ _ (HMX.out.later (a0b B3.out (a0a (Below.refl _ _) _))) (a3e _ _ _ _ rfl)).mono ?_;rintro e w4 ⟨rfl,hb⟩;have hb4:=a0b (a0a (Below.refl w3.heap.size w3) _) hb;have B4:=ι (a0b B3.out hb4);obtain⟨b4,o4,hq4,x0,x1,x2,_⟩:=row_nd (R3.out.later hb4) (j:=0) (by decide) rfl;subst hq4;have y0:w4.cell? ⟨b4,o4,none⟩=some (.string { data := #[47,97] }):=x0;have y1:w4.cell? ⟨b4,o4+1,none⟩=some (.bool true):=x1;have y2:w4.cell? ⟨b4,o4+2,none⟩=some (.string { data := #[] }):=x2;clear hb hb4 x0 x1 x2)
  | (refine a1z rfl (.tmp 32) rfl b4 o4 rfl vkN y0 y1 y2 ?_))
 go_ret
 exact⟨rfl,B4.out⟩
end vw
namespace vw
set_option maxRecDepth 100000
open Go.ChangeShapes Go.WideShapes Go.ChangeAt Go.RowKit
open rows
open sec
open ly
open pa
open lk
open fs (nodesC)
open dsk (Wr Wr.ok Wr.c wrsC)
theorem b9m{ss:List (List Int)}{ws:List Wr}(hs:Secs ss)(hw:∀x∈ws,x.ok):Secs (withL ss ws):=by
 unfold withL
 split
 ·exact a4w hs hw _ (Nat.le_refl _)
 ·intro s h;cases h
theorem wl_len2(ss:List (List Int))(ws:List Wr):(withL ss ws).length≤65:=by
 unfold withL
 split
 ·rw[a5w ss ws _ (Nat.le_refl _)];omega
 ·exact Nat.zero_le _
theorem c0a(ss:List (List Int)):(treeV ss).length≤64:=by rw[treeV,List.length_take];omega
set_option maxRecDepth 100000 in
set_option maxHeartbeats 3200000 in
theorem walkViewTells(p:Option Addr)(n c:Nat)(ss:List (List Int))(p2:Option Addr)(m c2:Nat)(ws:List Wr)(w:World)(h1:Rd w 32 (.slice p n c) n (cellsOf ss))(hn:n≤maxLen)(hs:Secs ss)
  (h2:Rd w 36 (.slice p2 m c2) m (wrsC ws)) (hm:m≤maxLen) (hok:∀x∈ws,x.ok) (hmx:Mx w) :
  Calls Tryz.prog 3 #[.slice p n c,.slice p2 m c2] w (Rt w (.bool true)):=by
 have HK:=ι fun w' (hb:Below w.heap.size w w')=>knows14 w' (hmx.later hb)
 have hn9:(n:Int)≤9223372036854775807:=by unfold maxLen at hn;omega
 have hm9:(m:Int)≤9223372036854775807:=by unfold maxLen at hm;omega
 by_cases hbig:200<n∨40<m
 ·have h3:200<n∨(n≤200∧40<m):=by omega
  clear h1 h2 hbig hs hok
  rcases h3 with h|⟨h,h'⟩
  all_goals
   first|(have j1:(200:Int)<n:=by omega)|(have j1:(n:Int)≤200:=by omega)
   first|(have j2:(40:Int)<m:=by omega)|skip
   clear hn hm
   go_enter Tryz.func3,Tryz.ntmps3
   go_wp2_with (go_at_call 8;refine(HK.out _ (Below.refl _ _)).mono ?_;rintro e w2 ⟨rfl,hb2⟩)
   go_ret
   exact⟨rfl,hb2⟩
 ·have j1:(n:Int)≤200:=by omega
  have j2:(m:Int)≤40:=by omega
  have HDD:=ι fun w' (hb:Below w.heap.size w w')=>b2q p n c ss p2 m c2 ws w' (h1.later hb) hs (by omega) (h2.later hb) hok (by omega)
  have HW:=ι fun w' (hb:Below w.heap.size w w')=>b8t p n c ss p2 m c2 ws w' (h1.later hb) hs (by omega) (h2.later hb) hok (by omega)
  have HS:=ι (b9m hs hok)
  have HL:=ι (wl_len2 ss ws)
  generalize withL ss ws=l at *
  have hl9:l.length≤100000:=by have:=HL.out;omega
  have C1:=ι fun w' d (hd:Dk w' d l)=>a7n d l w' hd
  have R1:=ι fun w' q c (hr:Rd w' 32 (.slice q l.length c) l.length (cellsOf l))=>b2b w' q l.length c l hr HS.out hl9
  have htl:=c0a l
  have HSM:=ι fun w' q c q2 c2 (hr:Rd w' 3 (.slice q (treeV l).length c) (treeV l).length (nodesC (treeV l))) (hr2:Rd w' 3 (.slice q2 (treeV l).length c2) (treeV l).length (nodesC (treeV l)))=>by
   have h:=b8o q (treeV l).length c (treeV l) q2 (treeV l).length c2 (treeV l) w' hr hr2 (by omega) (by omega)
   rw[decide_eq_true rfl] at h
   exact h
  clear htl
  generalize wholeB l=wb at *
  generalize treeV l=TL at *
  obtain⟨N,hN⟩:∃N,TL.length=N:=⟨_,rfl⟩
  rw[hN] at C1 R1 HSM
  clear h1 h2 hbig hs hok hn hm hl9 hN
  cases wb
  all_goals
   go_enter Tryz.func3,Tryz.ntmps3
   go_wp2_with (first
    | (go_at_call 8;refine(HK.out _ (Below.refl _ _)).mono ?_;rintro e w1 ⟨rfl,hb⟩;have B1:=ι (show Below w.heap.size w w1 from hb);clear hb)
    | (go_at_call 10;refine(HDD.out _ B1.out).mono ?_;rintro e w2 ⟨d,rfl,hd,hb⟩;have B2:=ι (a0b B1.out hb);have D2:=ι hd;clear hb hd)
    | (go_at_call 9;refine(C1.out _ _ D2.out).mono ?_;rintro e w3 ⟨q3,c3,rfl,hb,hr⟩;have B3:=ι (a0b B2.out hb);have R3:=ι hr;clear hb hr)
    | (go_at_call 12;refine(HW.out _ B3.out).mono ?_;rintro e w4 ⟨q,cq,rfl,hr,hb⟩;have B4:=ι (a0b B3.out hb);have R4:=ι (R3.out.later hb);have Q4:=ι hr;clear hb hr)
    | (go_at_call 11;refine(R1.out _ _ _ Q4.out).mono ?_;rintro e w5 ⟨q5,c5,rfl,hr,hb⟩;have B5:=ι (a0b B4.out hb);have R5:=ι (R4.out.later hb);have Q5:=ι hr;clear hb hr)
    | (go_at_call 13;refine(HSM.out _ _ _ _ _ R5.out Q5.out).mono ?_;rintro e w6 ⟨rfl,hb⟩;have B6:=ι (a0b B5.out hb);clear hb))
   go_ret
   exact⟨rfl,B6.out⟩
end vw
end Go.Proofs.YtjedjkjhodgidaaGreatDoor
