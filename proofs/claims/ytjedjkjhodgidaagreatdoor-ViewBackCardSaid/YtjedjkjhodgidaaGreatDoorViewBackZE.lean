/- What ViewBack wants, part 31. -/
import Derived.Test.YtjedjkjhodgidaaGreatDoorViewBackB
import Derived.Test.YtjedjkjhodgidaaGreatDoorViewBackE
import Derived.Test.YtjedjkjhodgidaaGreatDoorViewBackU
import Derived.Test.YtjedjkjhodgidaaGreatDoorViewBackV
import Derived.Test.YtjedjkjhodgidaaGreatDoorViewBackW
import Derived.Test.YtjedjkjhodgidaaGreatDoorViewBackX
import Derived.Test.YtjedjkjhodgidaaGreatDoorViewBackZD
import Derived.Test.YtjedjkjhodgidaaGreatDoorViewBackShf
import Derived.Sort.OwnSortedInts
set_option linter.unusedVariables false
set_option linter.unusedSimpArgs false
namespace Go.Proofs.YtjedjkjhodgidaaGreatDoor
namespace vw
set_option maxRecDepth 100000
open Go.ChangeShapes Go.WideShapes Go.ChangeAt Go.RowKit
open rows
open sec
open ly
open pa
open lk
open rng
open fs (Nd aggN AtN nodesC a0z)
open dsk (a1k a1r a7s)
attribute [local go_sem] Oper.semAt_some
set_option maxRecDepth 100000 in
set_option maxHeartbeats 4000000 in
theorem b5h(p:Option Addr)(ss:List (List Int))(w:World)(hd:Dk w (.pointer p) ss):Calls Tryz.prog 9 #[.pointer p] w fun e w'=>∃q n c,e = .returned (.tuple #[.slice q n c,.bool (wholeB ss)])∧Below w.heap.size w w'∧rows.Own w' 0 35 3 (.slice q n c) n (nodesC (treeV ss)):=by
 have hb1:=a0b (a0b (a0b (Below.refl w.heap.size w) (.cells #[.slice none 0 0] 25)) (.cells #[.bool false] 4)) (.cells #[.slice none 0 0] 25)
 have b0:=((Go.Boxed.new w 25 (.slice none 0 0)).alloc (.cells #[.bool false] 4)).alloc (.cells #[.slice none 0 0] 25)
 have b1:=(Go.Boxed.new (w.alloc (.cells #[.slice none 0 0] 25)) 4 (.bool false)).alloc (.cells #[.slice none 0 0] 25)
 have b2:=Go.Boxed.new ((w.alloc (.cells #[.slice none 0 0] 25)).alloc (.cells #[.bool false] 4)) 25 (.slice none 0 0)
 have hz:(((w.alloc (.cells #[.slice none 0 0] 25)).alloc (.cells #[.bool false] 4)).alloc (.cells #[.slice none 0 0] 25)).heap.size=w.heap.size+3:=by simp[World.size_alloc]
 simp only[World.size_alloc] at b0 b1 b2
 have HCN0:=(a6w p 0 none 0 0 (((w.alloc (.cells #[.slice none 0 0] 25)).alloc (.cells #[.bool false] 4)).alloc (.cells #[.slice none 0 0] 25)))
 simp only[World.size_alloc] at HCN0
 have HCN:=ι HCN0
 clear HCN0
 obtain⟨W2,hW2⟩:∃W2,((w.alloc (.cells #[.slice none 0 0] 25)).alloc (.cells #[.bool false] 4)).alloc (.cells #[.slice none 0 0] 25)=W2:=⟨_,rfl⟩
 rw[hW2] at hb1 b0 b1 b2 hz
 have HB1:=ι hb1
 have HR0:=ι b0
 have HR1:=ι b1
 have HR2:=ι b2
 have HZ:=ι hz
 have HD:=ι hd
 have HW2:=ι hW2
 clear hb1 b0 b1 b2 hz hd hW2
 refine(callsIn_wide (n:=10)).1 (callsIn_of_wp_marks Tryz.func9 rfl trivial ?_ rfl)
 simp only[Tryz.ntmps9,List.size_toArray,List.length_cons,List.length_nil,Nat.reduceAdd,Nat.reduceSub,Array.replicate_succ,Array.replicate_zero,List.push_toArray,List.append_toArray,List.nil_append,List.cons_append]
 gi_wp2_with (refine⟨trivial,?_⟩;gi_at_call 35;refine(callsIn_wide.2 HCN.out).mono ?_;rintro e wa ⟨rfl,hwa⟩;rw[HW2.out] at hwa;have HWA:=ι hwa;clear hwa)
 have HBa:Hid (Below W2.heap.size W2 wa):=ι (by rw[HWA.out];exact a0b (a0b (a0b (Below.refl _ _) _) _) _)
 have HBX:Hid (Go.Boxed wa (w.heap.size+1+1+1) 28 (.pointer p)∧Go.Boxed wa (w.heap.size+1+1+1+1) 3 (.int .i64 0)∧Go.Boxed wa (w.heap.size+1+1+1+2) 113 (.slice none 0 0)):=ι (by
  rw[HWA.out]
  have e0:=((Go.Boxed.new W2 28 (.pointer p)).alloc (.cells #[.int .i64 0] 3)).alloc (.cells #[.slice none 0 0] 113)
  have e1:=(Go.Boxed.new (W2.alloc (.cells #[.pointer p] 28)) 3 (.int .i64 0)).alloc (.cells #[.slice none 0 0] 113)
  have e2:=Go.Boxed.new ((W2.alloc (.cells #[.pointer p] 28)).alloc (.cells #[.int .i64 0] 3)) 113 (.slice none 0 0)
  simp only[World.size_alloc,HZ.out] at e0 e1 e2
  exact⟨e0,e1,e2⟩)
 have HSa:Hid (wa.heap.size=w.heap.size+6):=ι (by rw[HWA.out];simp[World.size_alloc,HZ.out])
 clear HWA
 have HBw:Hid (Below w.heap.size w wa):=ι (HB1.out.trans (HBa.out.mono (by have:=HZ.out;omega)))
 have HPN:Hid (PN (w.heap.size+1+1) W2 [] none 0 0 wa):=ι ⟨(rng.Calm.of_below (B:=0) HBa.out).boxed HR2.out,a2b _ _ _ _,rfl,fun k hk=>by simp[Value.ownBlock] at hk,HBa.out.mono (by have:=HZ.out;omega)⟩
 have HSQ:=ι (a8y (ss:=ss) 4 w p 0 [] none 0 0 W2.heap.size wa (w.heap.size+1+1+1) (w.heap.size+1+1+1+1) (w.heap.size+1+1+1+2) (fun b o=>b=wa.heap.size+1∨(fun b o=>b=w.heap.size+1+1∨(w.heap.size+1+1<b∧∃cs,o = .cells cs 35 (0,0))) b o) wa HD.out (by omega) (by omega) (fun x hx=>(nomatch hx)) rfl (a2b _ _ _ _) HBX.out.1 HBX.out.2.1 HBX.out.2.2 (by have:=HZ.out;omega) (by have:=HZ.out;omega) (by have:=HZ.out;omega) (by have:=HZ.out;omega) (KeepN.refl HBw.out) (fun b o hb=>by
   have h1:=HSa.out
   rcases hb with hb|hb|hb
   ·omega
   ·omega
   ·have:=hb.1;omega) (fun b o hb=>by
   have h1:=HSa.out
   have h2:=HZ.out
   rcases hb with hb|hb|⟨_,cs,rfl⟩
   ·exact Or.inr (Or.inr (by omega))
   ·exact Or.inl (by omega)
   ·exact Or.inr (Or.inl ⟨cs,_,rfl⟩)))
 refine a6m (gf:=78) (lb := #[.pointer (some ⟨w.heap.size+1+1+1,0,none⟩),.pointer (some ⟨w.heap.size+1+1+1+1,0,none⟩),.pointer (some ⟨w.heap.size+1+1+1+2,0,none⟩)]) rfl (fun args w=>enters_of Tryz.func78 (by kernel_rfl) rfl args w) (m:=(fun b o=>b=w.heap.size+1+1∨(w.heap.size+1+1<b∧∃cs,o = .cells cs 35 (0,0))))
  HSQ.out
  (fun b o hb=>by
   have h1:=HSa.out
   rcases hb with hb|⟨_,cs,rfl⟩
   ·exact Or.inl (by omega)
   ·exact Or.inr ⟨cs,_,rfl⟩) a0l (fun _=>rfl)
  (fun pre V=>(∃q n c,PN (w.heap.size+1+1) W2 pre q n c V)∧pre.length≤64)
  (fun c s V=>c = .ret∧s.length=65∧∃q n c,rows.Own V 0 35 3 (.slice q n c) n (nodesC (s.take 64))∧Go.Boxed V w.heap.size 25 (.slice q n c)∧Go.Boxed V (w.heap.size+1) 4 (.bool false)∧Below w.heap.size w V)
  (fun s A B h hc=>by
   obtain⟨⟨q,n,c,h⟩,hl⟩:=h
   exact⟨⟨q,n,c,h.calm hc (by have:=HSa.out;omega) (Nat.le_of_lt h.box.lt)⟩,hl⟩)
  (fun c s A B h hc=>by
   obtain⟨h1,h2,q,n,c,h3,h4,h5,h6⟩:=h
   refine⟨h1,h2,q,n,c,⟨h3.1,?_⟩,hc.boxed (by have:=HSa.out;omega) h4,hc.boxed (by have:=HSa.out;omega) h5,h6.trans (hc.below (by have:=HSa.out;omega) h6.size)⟩
   rcases h3.2 with h2|⟨g,cap,cur,hv,h3,h4,h5⟩
   ·exact Or.inl h2
   ·exact Or.inr ⟨g,cap,cur,hv,h3,hc.block g _ h4 (Or.inr ⟨_,_,rfl⟩),h5⟩)
  ⟨⟨_,_,_,HPN.out⟩,by simp⟩
  (fun pre x a' V=>((∃q n c,PN (w.heap.size+1+1) W2 pre q n c V)∧pre.length≤64)∧∃(Bx:Nat) (t0 t1 t6 t7 t8 t9 t10 t11 t12 t13 t14 t15 t16 t17:Value),fs.AtN V Bx x∧a'={ tmps := #[t0,t1,.pointer (some ⟨w.heap.size,0,none⟩),.pointer (some ⟨w.heap.size+1,0,none⟩),.pointer (some ⟨w.heap.size+1+1,0,none⟩),.pointer (some ⟨Bx,0,none⟩),t6,t7,t8,t9,t10,t11,t12,t13,t14,t15,t16,t17],defers:=[] })
  (fun s x a' A B h hc2=>by
   have hc:=CalmS.of a0l hc2
   obtain⟨⟨⟨q,n,c,h⟩,hl⟩,Bx,t0,t1,t6,t7,t8,t9,t10,t11,t12,t13,t14,t15,t16,t17,h2,h3⟩:=h
   exact⟨⟨⟨q,n,c,h.calm hc (by have:=HSa.out;omega) (Nat.le_of_lt h.box.lt)⟩,hl⟩,Bx,t0,t1,t6,t7,t8,t9,t10,t11,t12,t13,t14,t15,t16,t17,hc2.block _ _ h2 (Or.inr rfl),h3⟩)
  ?assign ?body ?done ?stop
 case assign =>
  rintro l2 pre x Vx hI hsz _
  obtain⟨x1,x2,x3⟩:=x
  have HI2:=ι hI
  clear hI
  simp only[aggN]
  gi_wp2
  have hb:=a0b (Below.refl Vx.heap.size Vx) (.cells #[.string x1,.bool x2,.string x3] 35)
  obtain⟨⟨q,n,c,h⟩,hl⟩:=HI2.out
  exact⟨⟨⟨⟨q,n,c,h.later hb⟩,hl⟩,heap_alloc_new _ _⟩,Turn.of_below hb⟩
 case body =>
  rintro l2 pre x a' Vx ⟨⟨⟨q,n,c,hI⟩,hl⟩,Bx,t0,t1,t6,t7,t8,t9,t10,t11,t12,t13,t14,t15,t16,t17,hX,rfl⟩ hsz hsp
  have x0:=hX.c0
  have x1:=hX.c1
  have x2:=hX.c2
  have cl:=hI.box.cell
  have fl:=hI.box.frozen
  have hn:=hI.len
  have HI:=ι hI
  have k0:Go.Boxed Vx w.heap.size 25 (.slice none 0 0):=(hI.below.block _ (by omega)).trans HR0.out
  have k1:Go.Boxed Vx (w.heap.size+1) 4 (.bool false):=(hI.below.block _ (by omega)).trans HR1.out
  have HPL:=ι hn
  clear hX hsp
  by_cases h64:n=64
  ·subst h64
   have k1b:Go.Boxed (Vx.setCell ⟨w.heap.size,0,none⟩ (.slice q 64 c)) (w.heap.size+1) 4 (.bool false):=(Below.heap_setCell _ _ _ _ (by show w.heap.size+1≠w.heap.size;omega)).trans k1
   have f0:=k0.frozen
   have f1:=k1.frozen
   have f1b:=k1b.frozen
   have c0:=k0.cell
   have c1:=k1.cell
   have c1b:=k1b.cell
   have K0:=ι k0
   have K1B:=ι k1b
   clear k0 k1 k1b hI hn
   gi_wp2
   have hwa:=HSa.out
   have ht:dsk.Touch (fun g=>g=w.heap.size∨g=w.heap.size+1) Vx ((Vx.setCell ⟨w.heap.size,0,none⟩ (.slice q 64 c)).setCell ⟨w.heap.size+1,0,none⟩ (.bool false)):=dsk.Touch.setCell (S:=fun g=>g=w.heap.size∨g=w.heap.size+1) (dsk.Touch.setCell (S:=fun g=>g=w.heap.size∨g=w.heap.size+1) (dsk.Touch.refl _ Vx) ⟨w.heap.size,0,none⟩ (Or.inl rfl) _) ⟨w.heap.size+1,0,none⟩ (Or.inr rfl) _
   have j0:Go.Boxed ((Vx.setCell ⟨w.heap.size,0,none⟩ (.slice q 64 c)).setCell ⟨w.heap.size+1,0,none⟩ (.bool false)) w.heap.size 25 (.slice q 64 c):=(Below.heap_setCell _ _ _ _ (by show w.heap.size≠w.heap.size+1;omega)).trans (K0.out.set _)
   have j1:Go.Boxed ((Vx.setCell ⟨w.heap.size,0,none⟩ (.slice q 64 c)).setCell ⟨w.heap.size+1,0,none⟩ (.bool false)) (w.heap.size+1) 4 (.bool false):=K1B.out.set _
   have jo:rows.Own ((Vx.setCell ⟨w.heap.size,0,none⟩ (.slice q 64 c)).setCell ⟨w.heap.size+1,0,none⟩ (.bool false)) 0 35 3 (.slice q 64 c) 64 (nodesC pre):=dsk.a0i (S:=fun k=>w.heap.size+1+1<k) (dsk.a0i (S:=fun k=>w.heap.size+1+1<k) HI.out.own HI.out.low (dsk.Keeps.set (fun g hg=>by omega) _)) HI.out.low (dsk.Keeps.set (fun g hg=>by omega) _)
   have jb:Below w.heap.size w ((Vx.setCell ⟨w.heap.size,0,none⟩ (.slice q 64 c)).setCell ⟨w.heap.size+1,0,none⟩ (.bool false)):=(HB1.out.trans (HI.out.below.mono (by omega))).trans (ht.below (by have:=K0.out.lt;omega) fun k hk=>by omega)
   have hpl:pre.length=64:=HPL.out.symm
   exact⟨⟨rfl,by simp[hpl],q,64,c,by rw[List.take_append_of_le_length (by omega),List.take_of_length_le (by omega)];exact jo,j0,j1,jb⟩,Turn.of_touch' ht fun k o _ hk=>Or.inl (by omega)⟩
  ·have h64b:((n:Int) == 64)=false:=by simp;omega
   have HNL:Hid (n≤63):=ι (by omega)
   clear hI hn k0 k1
   gi_wp2_with (first|(refine a3j rfl ?_;refine a1k a0z (by decide) rfl (.tmp 14) rfl x.c rfl rfl ?_;refine a2a ?_)|(gi_at_builtin;refine a3j rfl ?_;refine a7s a0z rfl (.tmp 13) (.tmp 15) rfl _ n _ rfl (HI.out.own.alloc _) _ 1 x.c rfl (a1r _ _ _ _ rfl) (fun v hv=>by simp[fs.Nd.c] at hv;rcases hv with rfl|rfl|rfl<;>rfl) (by have:=HNL.out;omega) ?_;intro pa' ca wb hoa hta hla;have hB8:=a3q (HI.out.box.alloc (.cells x.c.toArray 35)) hta (fun e=>Nat.lt_irrefl _ (HI.out.low _ e));have c8a:=hB8.cell;have f8a:=hB8.frozen;have HOA:=ι hoa;have HTA:=ι hta;have HLA2:=ι hla;clear hoa hta hla hB8;refine a2a ?_))
   obtain⟨r1,r2⟩:=c0w HI.out HOA.out HTA.out HLA2.out
   exact⟨⟨⟨_,_,_,r1⟩,by have:=HNL.out;have:=HPL.out;simp;omega⟩,r2⟩
 case done =>
  rintro D ys Vx hD rfl ⟨⟨q,n,c,hI⟩,hl⟩ hK
  have cl:=hI.box.cell
  have HI:=ι hI
  have HL:=ι hl
  have k0:Go.Boxed Vx w.heap.size 25 (.slice none 0 0):=(hI.below.block _ (by omega)).trans HR0.out
  have k1:Go.Boxed Vx (w.heap.size+1) 4 (.bool false):=(hI.below.block _ (by omega)).trans HR1.out
  have f0:=k0.frozen
  have k1b:Go.Boxed (Vx.setCell ⟨w.heap.size,0,none⟩ (.slice q n c)) (w.heap.size+1) 4 (.bool false):=(Below.heap_setCell _ _ _ _ (by show w.heap.size+1≠w.heap.size;omega)).trans k1
  have f1:=k1.frozen
  have f1b:=k1b.frozen
  have c0:=k0.cell
  have c1:=k1.cell
  have c1b:=k1b.cell
  have K1B:=ι k1b
  clear k1b
  have K0:=ι k0
  have K1:=ι k1
  clear hI hl k0 k1
  gi_wp2
  have hyl:(nodesF ss 4 0 []).length≤64:=HL.out
  have hwa:=HSa.out
  have ht:dsk.Touch (fun g=>g=w.heap.size∨g=w.heap.size+1) Vx ((Vx.setCell ⟨w.heap.size,0,none⟩ (.slice q n c)).setCell ⟨w.heap.size+1,0,none⟩ (.bool true)):=dsk.Touch.setCell (S:=fun g=>g=w.heap.size∨g=w.heap.size+1) (dsk.Touch.setCell (S:=fun g=>g=w.heap.size∨g=w.heap.size+1) (dsk.Touch.refl _ Vx) ⟨w.heap.size,0,none⟩ (Or.inl rfl) _) ⟨w.heap.size+1,0,none⟩ (Or.inr rfl) _
  have j0:Go.Boxed ((Vx.setCell ⟨w.heap.size,0,none⟩ (.slice q n c)).setCell ⟨w.heap.size+1,0,none⟩ (.bool true)) w.heap.size 25 (.slice q n c):=(Below.heap_setCell _ _ _ _ (by show w.heap.size≠w.heap.size+1;omega)).trans (K0.out.set _)
  have j1:Go.Boxed ((Vx.setCell ⟨w.heap.size,0,none⟩ (.slice q n c)).setCell ⟨w.heap.size+1,0,none⟩ (.bool true)) (w.heap.size+1) 4 (.bool true):=K1B.out.set _
  have jo:rows.Own ((Vx.setCell ⟨w.heap.size,0,none⟩ (.slice q n c)).setCell ⟨w.heap.size+1,0,none⟩ (.bool true)) 0 35 3 (.slice q n c) n (nodesC (nodesF ss 4 0 [])):=dsk.a0i (S:=fun k=>w.heap.size+1+1<k) (dsk.a0i (S:=fun k=>w.heap.size+1+1<k) HI.out.own HI.out.low (dsk.Keeps.set (fun g hg=>by omega) _)) HI.out.low (dsk.Keeps.set (fun g hg=>by omega) _)
  have jb:Below w.heap.size w ((Vx.setCell ⟨w.heap.size,0,none⟩ (.slice q n c)).setCell ⟨w.heap.size+1,0,none⟩ (.bool true)):=(HB1.out.trans (HI.out.below.mono (by omega))).trans (ht.below (by have:=K0.out.lt;omega) fun k hk=>by omega)
  have jD:=(ht.block D (Array.getElem?_eq_some_iff.1 hK).1 (by omega)).trans hK
  generalize (Vx.setCell ⟨w.heap.size,0,none⟩ (.slice q n c)).setCell ⟨w.heap.size+1,0,none⟩ (.bool true)=X at *
  refine a0k (B:=wa.heap.size) (C:=X.heap.size) [D] X ⟨by simp,fun E hE=>by rw[List.mem_singleton.1 hE];exact⟨hD,(Array.getElem?_eq_some_iff.1 jD).1,jD⟩⟩ fun w' hc => ?_
  have q1:=(hc.boxed j0).cell
  have q2:=(hc.boxed j1).cell
  have hwb:wholeB ss=true:=by rw[wholeB];exact decide_eq_true hyl
  have htv:treeV ss=nodesF ss 4 0 []:=by rw[treeV,nodesV,List.take_of_length_le hyl]
  exact⟨.tuple #[.slice q n c,.bool true],by simp[results,Tryz.f9,go_sem,q1,q2],q,n,c,by rw[hwb],jb.trans (hc.below (by omega) jb.size),by rw[htv];exact a3x jo hc⟩
 case stop =>
  rintro D c pre Vx hD hp ⟨rfl,hl,q,n,c2,ho,hb0,hb1,hbw⟩ hK
  have HP:=ι (And.intro ho (And.intro hb0 (And.intro hb1 hbw)))
  clear ho hb0 hb1 hbw
  gi_wp2
  refine a0k (B:=wa.heap.size) (C:=Vx.heap.size) [D] Vx ⟨by simp,fun E hE=>by rw[List.mem_singleton.1 hE];exact⟨hD,(Array.getElem?_eq_some_iff.1 hK).1,hK⟩⟩ fun w' hc => ?_
  have q1:=(hc.boxed HP.out.2.1).cell
  have q2:=(hc.boxed HP.out.2.2.1).cell
  obtain⟨u,hu⟩:=hp
  have hge:65≤(nodesV ss).length:=by
   have:=congrArg List.length hu
   rw[List.length_append] at this
   show 65≤(nodesF ss 4 0 []).length
   omega
  have hwb:wholeB ss=false:=by rw[wholeB];simp;omega
  have htv:treeV ss=pre.take 64:=by
   rw[treeV,nodesV,← hu,List.take_append_of_le_length (by omega)]
  exact⟨.tuple #[.slice q n c2,.bool false],by simp[results,Tryz.f9,go_sem,q1,q2],q,n,c2,by rw[hwb],HP.out.2.2.2.trans (hc.below (by have:=HSa.out;omega) HP.out.2.2.2.size),by rw[htv];exact a3x HP.out.1 hc⟩
end vw
end Go.Proofs.YtjedjkjhodgidaaGreatDoor
