/- What ViewBack wants, part 23. -/
import Derived.Test.YtjedjkjhodgidaaGreatDoorViewBackB
import Derived.Test.YtjedjkjhodgidaaGreatDoorViewBackE
import Derived.Test.YtjedjkjhodgidaaGreatDoorViewBackU
set_option linter.unusedVariables false
set_option linter.unusedSimpArgs false
namespace Go.Proofs.YtjedjkjhodgidaaGreatDoor
namespace lk
set_option maxRecDepth 100000
open Go.ChangeShapes Go.WideShapes Go.ChangeAt Go.RowKit
open rows
open sec
open ly
open rng
attribute [local go_sem] Oper.semAt_some
def softE(o:Obj):Prop:=∃cs t fr,o = .cells cs t fr∧t≠28∧t≠198
theorem a4t(o:Obj)(h:softE o):o.isCells=true:=by
 obtain⟨cs,t,fr,rfl,_⟩:=h
 rfl
theorem b5x{v:Value}:¬softE (.cells #[v] 28 (0,0)):=fun⟨cs,t,fr,h,h1,_⟩=>by
 injection h with _ h2
 exact h1 h2.symm
theorem b7n{v:Value}:¬softE (.cells #[v] 198 (0,0)):=fun⟨cs,t,fr,h,_,h1⟩=>by
 injection h with _ h2
 exact h1 h2.symm
def those(p:Nat→Bool)(k:Nat):List Nat:=(List.range k).filter p
theorem a5v{p:Nat→Bool}{k:Nat}(h:p k=true):those p (k+1)=those p k++[k]:=by
 rw[those,List.range_succ,List.filter_append];simp[h,those]
theorem a8k{p:Nat→Bool}{k:Nat}(h:p k=false):those p (k+1)=those p k:=by
 rw[those,List.range_succ,List.filter_append];simp[h,those]
theorem a9l(p:Nat→Bool){k:Nat}:∀{m:Nat},k≤m→those p k <+: those p m
 | 0,h=>by
   obtain rfl:k=0:=by omega
   exact List.prefix_refl _
 | m+1,h=>by
  by_cases e:k=m+1
  ·subst e;exact List.prefix_refl _
  ·refine(a9l p (k:=k) (m:=m) (by omega)).trans ?_
   cases hp:p m with
   | true=>rw[a5v hp];exact List.prefix_append _ _
   | false=>rw[a8k hp];exact List.prefix_refl _
theorem those_mem{p:Nat→Bool}{k j:Nat}:j∈those p k↔j<k∧p j=true:=by simp[those]
def entB(ss:List (List Int))(k:Nat):Bool:=(entAt ss (k:Int)).used
set_option maxRecDepth 100000 in
set_option maxHeartbeats 2000000 in
theorem c0k(w0:World)(d:Value)(ss:List (List Int))(hd:Dk w0 d ss)(bd:Nat)(m:Nat→Obj→Prop)(w:World)(hb:Below w0.heap.size w0 w)(hbox:Go.Boxed w bd 28 d)(hZ:∀b o,m b o→w0.heap.size≤b)(hZd:∀v,¬m bd (.cells #[v] 28 (0,0))) :
  Seq Tryz.prog 178 #[.pointer (some ⟨bd,0,none⟩)] (fun k:Nat => #[.int .i64 (k:Int),aggE (entAt ss (k:Int))]) softE m (fun ys=>ys=those (entB ss) 24) (fun pre=>pre <+: those (entB ss) 24) w:=by
 intro l J Jx W hW _ hJ hJx hY h0
 have HJ:=ι hJ
 have HY:=ι hY
 have HZ:=ι hZ
 have HZD:=ι hZd
 have HB0:Hid (Below w0.heap.size w0 W):=ι (hb.trans (hW.mono hb.size))
 have HX0:Hid (Go.Boxed W bd 28 d):=ι ((hW.block _ hbox.lt).trans hbox)
 have H0:=ι h0
 have HE:=ι fun(k:Nat) (hk:k<24) w' (h:Below w0.heap.size w0 w')=>b2o w' d ss (k:Int) (hd.later h) (a2x (by omega))
 clear hJ hY hZ hZd hb hW hbox h0 hd hJx
 refine(callsIn_wide (n:=10)).1 (callsIn_of_wp Tryz.func178 rfl trivial ?_ rfl)
 simp only[Tryz.ntmps178,List.size_toArray,List.length_cons,List.length_nil,Nat.reduceAdd,Nat.reduceSub,Array.replicate_succ,Array.replicate_zero,List.push_toArray,List.append_toArray,List.nil_append,List.cons_append]
 gi_wp2
 gi_loopw [5] (fun kv wr=>∃k:Nat,k≤24∧kv = .int .i64 (k:Int)∧Hid (J (those (entB ss) k) wr)∧Hid (Below w0.heap.size w0 wr)∧Hid (Go.Boxed wr bd 28 d)∧Hid (W.heap.size≤wr.heap.size))
  (fun kv _=>24-(intOf kv).toNat)
 case atStart=>exact⟨0,Nat.zero_le _,rfl,H0,HB0,HX0,ι (Nat.le_refl _)⟩
 case round =>
  obtain⟨k,hk,rfl,HJS,HB,HX,HS⟩:=hrel
  by_cases hlt:k<24
  ·have hlt1:(k:Int)<24:=by omega
   have HEk:=ι (HE.out k hlt wr HB.out)
   have HYk:=ι fun W1 hj hs hp=>HY.out (those (entB ss) k) k W1 hj hs hp
   have cd:=HX.out.cell
   have hub:entB ss k=(entAt ss (k:Int)).used:=rfl
   generalize entAt ss (k:Int)=x at HEk HYk hub
   obtain⟨u,pa,nm,tg⟩:=x
   simp only at hub
   cases u with
   | false =>
    have HT:=ι (a8k hub)
    clear hub HYk
    gi_wp2_with (refine⟨trivial,?_⟩;gi_at_call 57;refine(callsIn_wide.2 HEk.out).mono ?_;rintro e w2 ⟨rfl,hb2⟩;have HB2:=ι hb2;clear hb2)
    all_goals
     refine⟨fun _ h=>(by cases h),?_⟩
     gi_wp2
     go_roundw
     case rel=>exact⟨k+1,by omega,by go_num,ι (by rw[HT.out];exact HJ.out _ _ _ HJS.out (Calm.of_below (a0b HB2.out _))),ι (HB.out.trans ((a0b HB2.out _).mono HB.out.size)),ι ((Calm.of_below (B:=0) (a0b HB2.out _)).boxed HX.out),ι (Nat.le_trans HS.out (a0b HB2.out _).size)⟩
     case measure=>simp[intOf];omega
   | true =>
    have HT:=ι (a5v hub)
    have HP:Hid (those (entB ss) k++[k] <+: those (entB ss) 24):=ι (by rw[← HT.out];exact a9l _ (by omega))
    clear hub
    have HYw:=ι fun w2 (hb2:Below wr.heap.size wr w2)=>a4b 9 (HYk.out (w2.alloc (.cells #[.bool true,.int .i64 pa,.string nm,.int .i64 tg] 119)) (HJ.out _ _ _ HJS.out (Calm.of_below (a0b hb2 _))) (Nat.le_trans HS.out (a0b hb2 _).size) HP.out)
    gi_wp2_with (refine⟨trivial,?_⟩;gi_at_call 57;refine(callsIn_wide.2 HEk.out).mono ?_;rintro e w2 ⟨rfl,hb2⟩;have HB2:=ι hb2;obtain⟨fn,tmps,assign,body,hy,hR⟩:=HYw.out w2 hb2;replace hy:(Instr.yield l #[.int .i64 (k:Int),.agg #[.bool true,.int .i64 pa,.string nm,.int .i64 tg]]).run Tryz.prog (w2.alloc (.cells #[.bool true,.int .i64 pa,.string nm,.int .i64 tg] 119)) = .ok (.round l fn tmps assign body) (w2.alloc (.cells #[.bool true,.int .i64 pa,.string nm,.int .i64 tg] 119)):=hy;clear hb2)
    refine hR.mono ?_
    have HBa:=ι (a0b HB2.out (.cells #[.bool true,.int .i64 pa,.string nm,.int .i64 tg] 119))
    rintro e W3 (⟨rfl,hJ3,hT3⟩|⟨rfl,hJx3,hT3⟩)
    ·have HJ3:=ι hJ3
     have HB3:Hid (Below w0.heap.size w0 W3):=ι ((HB.out.trans (HBa.out.mono HB.out.size)).trans (hT3.below (Nat.le_trans HB.out.size HBa.out.size) fun i o hi=>HZ.out i o hi))
     have HX3:Hid (Go.Boxed W3 bd 28 d):=ι (hT3.keep _ _ ((Calm.of_below (B:=0) HBa.out).boxed HX.out) (HZD.out _))
     have HS3:Hid (W.heap.size≤W3.heap.size):=ι (Nat.le_trans HS.out (Nat.le_trans HBa.out.size hT3.size))
     clear hy hR hJ3 hT3 HBa HB2
     gi_wp2
     go_roundw
     case rel=>exact⟨k+1,by omega,by go_num,ι (by rw[HT.out];exact HJ3.out),HB3,HX3,HS3⟩
     case measure=>simp[intOf];omega
    ·have HJX3:=ι hJx3
     clear hy hR hJx3 hT3 HBa HB2
     gi_wp2
     refine bodyPost_ret (results_none rfl _ _ _) rfl ?_
     exact⟨⟨_,rfl⟩,.inr ⟨_,HP.out,HJX3.out⟩⟩
  ·obtain rfl:k=24:=by omega
   gi_wp2
   go_end0
   exact⟨⟨_,rfl⟩,.inl ⟨_,rfl,HJS.out⟩⟩
end lk
namespace lk
set_option maxRecDepth 100000
open Go.ChangeShapes Go.WideShapes Go.ChangeAt Go.RowKit
open rows
open sec
open ly
open rng
attribute [local go_sem] Oper.semAt_some
theorem b8g(p:Option Addr)(w:World):Calls Tryz.prog 149 #[.pointer p] w fun e w'=>e = .returned (.func (.func 178) #[] #[.pointer (some ⟨w.heap.size,0,none⟩)])∧w'=w.alloc (.cells #[.pointer p] 28):=by
 go_enter Tryz.func149,Tryz.ntmps149
 go_wp2
 go_ret
 exact⟨rfl,rfl⟩
theorem b6z{w:World}{d:Value}{ss:List (List Int)}(h:Dk w d ss):∃p,d = .pointer p:=by
 rcases h with⟨rfl,_⟩|⟨F,st,⟨z,g,vs,vw,vn,vl,vf,rfl,_⟩,_⟩
 ·exact⟨_,rfl⟩
 ·exact⟨_,rfl⟩
end lk
namespace lk
set_option maxRecDepth 100000
open Go.ChangeShapes Go.WideShapes Go.ChangeAt Go.RowKit
open rows
open sec
open ly
open rng
attribute [local go_sem] Oper.semAt_some
def inDir(ss:List (List Int))(i:Int)(k:Nat):Bool:=standB ss k && decide ((entAt ss (k:Int)).parent=i)
theorem b6u{p q:Nat→Bool}(h:∀k,q k=true→p k=true)(m:Nat):(those p m).filter q=those q m:=by
 rw[those,those,List.filter_filter]
 congr 1
 funext k
 cases hq:q k with
 | true=>rw[h k hq];rfl
 | false=>rfl
theorem b4i{ss:List (List Int)}{i:Int}{k:Nat}(h:inDir ss i k=true):entB ss k=true:=by
 rw[inDir,standB,Bool.and_eq_true,Bool.and_eq_true] at h
 exact h.1.1
theorem dirs(ss:List (List Int))(i:Int):(those (entB ss) 24).filter (inDir ss i)=those (inDir ss i) 24:=b6u (fun k h=>b4i h) 24
theorem a5m(p:Option Addr)(i:Int)(w:World):Calls Tryz.prog 107 #[.pointer p,.int .i64 i] w fun e w'=>e = .returned (.func (.func 148) #[] #[.pointer (some ⟨w.heap.size,0,none⟩),.pointer (some ⟨w.heap.size+1,0,none⟩)])∧w'=(w.alloc (.cells #[.pointer p] 28)).alloc (.cells #[.int .i64 i] 3):=by
 go_enter Tryz.func107,Tryz.ntmps107
 go_wp2
 go_ret
 exact⟨rfl,rfl⟩
set_option maxRecDepth 100000 in
set_option maxHeartbeats 4000000 in
theorem a6t(w0:World)(p:Option Addr)(ss:List (List Int))(hd:Dk w0 (.pointer p) ss)(i:Int)(bd bn:Nat)(m:Nat→Obj→Prop)(w:World)(hb:Below w0.heap.size w0 w)(hbd:Go.Boxed w bd 28 (.pointer p))(hbn:Go.Boxed w bn 3 (.int .i64 i))(hZ:∀b o,m b o→w0.heap.size≤b)(hZd:∀o,¬m bd o)(hZn:∀o,¬m bn o) :
  Seq Tryz.prog 148 #[.pointer (some ⟨bd,0,none⟩),.pointer (some ⟨bn,0,none⟩)] (fun k:Nat => #[.int .i64 (k:Int),aggE (entAt ss (k:Int))]) softE m (fun ys=>ys=those (inDir ss i) 24) (fun pre=>pre <+: those (inDir ss i) 24) w:=by
 intro l J Jx W hW hZW hJ hJx hY h0
 have HJ:=ι hJ
 have HJX:=ι hJx
 have HY:=ι hY
 have HZ:=ι hZ
 have HZD:=ι hZd
 have HZN:=ι hZn
 have HZW:=ι hZW
 have HD:=ι hd
 have hB0:Below w0.heap.size w0 W:=hb.trans (hW.mono hb.size)
 have HS0:=ι hB0.size
 have hX0:Go.Boxed W bd 28 (.pointer p):=(hW.block _ hbd.lt).trans hbd
 have hN0:Go.Boxed W bn 3 (.int .i64 i):=(hW.block _ hbn.lt).trans hbn
 have HI:=ι fun(k:Nat) w' (h:Below w0.heap.size w0 w')=>a5g w' (.pointer p) ss (entAt ss (k:Int)).target (hd.later h) (by have:=b2p hd.secs.1 (k:Int);exact a2x (by omega))
 have H4:=ι fun(k:Nat)=>a2i hd.secs.1 (entAt ss (k:Int)).target
 have hb1:=a0b (a0b (Below.refl W.heap.size W) (.cells #[.func (.yield l) #[] #[]] 198)) (.cells #[.pointer p] 28)
 have hy1:=(Go.Boxed.new W 198 (.func (.yield l) #[] #[])).alloc (.cells #[.pointer p] 28)
 have hd1:=Go.Boxed.new (W.alloc (.cells #[.func (.yield l) #[] #[]] 198)) 28 (.pointer p)
 rw[World.size_alloc] at hd1
 have hsz:((W.alloc (.cells #[.func (.yield l) #[] #[]] 198)).alloc (.cells #[.pointer p] 28)).heap.size=W.heap.size+2:=by simp[World.size_alloc]
 have cd:(W.alloc (.cells #[.func (.yield l) #[] #[]] 198)).cell? ⟨bd,0,none⟩=some (.pointer p):=(hX0.alloc _).cell
 obtain⟨W2,hW2⟩:∃W2,(W.alloc (.cells #[.func (.yield l) #[] #[]] 198)).alloc (.cells #[.pointer p] 28)=W2:=⟨_,rfl⟩
 rw[hW2] at hb1 hy1 hd1 hsz
 have HB2:Hid (Below w0.heap.size w0 W2):=ι (hB0.trans (hb1.mono hB0.size))
 have HX2:Hid (Go.Boxed W2 bd 28 (.pointer p)):=ι ((Calm.of_below (B:=0) hb1).boxed hX0)
 have HN2:Hid (Go.Boxed W2 bn 3 (.int .i64 i)):=ι ((Calm.of_below (B:=0) hb1).boxed hN0)
 have HY2:=ι hy1
 have HD2:=ι hd1
 have HSZ:=ι hsz
 have HJ2:Hid (J [] W2):=ι (hJ _ _ _ h0 (Calm.of_below hb1))
 clear hJ hY hZ hZd hZn hb hW hbd hbn h0 hd hJx hZW hB0 hX0 hN0 hb1 hy1 hd1 hsz
 refine(callsIn_wide (n:=10)).1 (callsIn_of_wp_marks Tryz.func148 rfl trivial ?_ rfl)
 simp only[Tryz.ntmps148,List.size_toArray,List.length_cons,List.length_nil,Nat.reduceAdd,Nat.reduceSub,Array.replicate_succ,Array.replicate_zero,List.push_toArray,List.append_toArray,List.nil_append,List.cons_append]
 gi_wp2_with (refine⟨trivial,?_⟩;gi_at_call 149;refine(callsIn_wide.2 (b8g _ _)).mono ?_;rintro e w2 ⟨rfl,rfl⟩)
 try rw[hW2]
 clear hW2 cd
 refine a4m (gf:=178) (lb := #[.pointer (some ⟨W.heap.size+1,0,none⟩)]) rfl (enters_of Tryz.func178 (by kernel_rfl) rfl)
  (c0k w0 (.pointer p) ss HD.out (W.heap.size+1) (fun b o=>b=W2.heap.size+1∨m b o) W2 HB2.out HD2.out (fun b o hb=>by
   have h1:=HSZ.out
   have h2:=HS0.out
   rcases hb with hb|hb
   ·omega
   ·exact HZ.out b o hb) (fun v hb=>by
   have h1:=HSZ.out
   rcases hb with hb|hb
   ·omega
   ·rcases HZW.out _ _ hb with h|h
    ·omega
    ·exact b5x h)) (fun b o h=>(HZW.out b o h).imp (fun h=>by have:=HSZ.out;omega) id) a4t (fun _=>rfl)
  (fun pre V=>J (pre.filter (inDir ss i)) V∧Go.Boxed V W.heap.size 198 (.func (.yield l) #[] #[])∧Go.Boxed V bd 28 (.pointer p)∧Go.Boxed V bn 3 (.int .i64 i)∧Below w0.heap.size w0 V∧W.heap.size≤V.heap.size)
  (fun c pre V=>c = .ret∧Jx (pre.filter (inDir ss i)) V)
  (fun s A B h hc=>⟨HJ.out _ _ _ h.1 (hc.mono (by have:=HSZ.out;omega)),hc.boxed h.2.1,hc.boxed h.2.2.1,hc.boxed h.2.2.2.1,h.2.2.2.2.1.trans (hc.below (by have:=HSZ.out;have:=HS0.out;omega) h.2.2.2.2.1.size),Nat.le_trans h.2.2.2.2.2 hc.size⟩)
  (fun c s A B h hc=>⟨h.1,HJX.out _ _ _ h.2 (hc.mono (by have:=HSZ.out;omega))⟩)
  ⟨HJ2.out,HY2.out,HX2.out,HN2.out,HB2.out,by have:=HSZ.out;omega⟩
  (fun pre k a' V=>(J (pre.filter (inDir ss i)) V∧Go.Boxed V W.heap.size 198 (.func (.yield l) #[] #[])∧Go.Boxed V bd 28 (.pointer p)∧Go.Boxed V bn 3 (.int .i64 i)∧Below w0.heap.size w0 V∧W.heap.size≤V.heap.size)∧∃Bx,AtE V Bx (entAt ss (k:Int))∧a'={ tmps := #[.func (.yield l) #[] #[],.pointer (some ⟨bd,0,none⟩),.pointer (some ⟨bn,0,none⟩),.pointer (some ⟨W.heap.size,0,none⟩),.int .i64 (k:Int),.pointer (some ⟨Bx,0,none⟩),undef,.pointer p,.func (.func 178) #[] #[.pointer (some ⟨W.heap.size+1,0,none⟩)],.int .i64 (k:Int),aggE (entAt ss (k:Int)),undef,undef,undef,undef,undef,undef,undef,undef,undef,undef,undef,undef,undef,undef,undef,undef,undef,undef,undef,undef],defers:=[] })
  (fun s k a' A B h hc=>by
   obtain⟨h1,Bx,h2,h3⟩:=h
   exact⟨⟨HJ.out _ _ _ h1.1 (hc.mono (by have:=HSZ.out;omega)),hc.boxed h1.2.1,hc.boxed h1.2.2.1,hc.boxed h1.2.2.2.1,h1.2.2.2.2.1.trans (hc.below (by have:=HSZ.out;have:=HS0.out;omega) h1.2.2.2.2.1.size),Nat.le_trans h1.2.2.2.2.2 hc.size⟩,Bx,hc.block _ _ h2 (Or.inr rfl),h3⟩)
  ?assign ?body ?done ?stop
 case assign =>
  rintro l2 pre k V hI hsz _
  generalize entAt ss (k:Int)=x
  obtain⟨u,pa,nm,tg⟩:=x
  have HI2:=ι hI
  clear hI
  gi_wp2
  have hb:=a0b (Below.refl V.heap.size V) (.cells #[.bool u,.int .i64 pa,.string nm,.int .i64 tg] 119)
  exact⟨⟨⟨HJ.out _ _ _ HI2.out.1 (Calm.of_below hb),HI2.out.2.1.alloc _,HI2.out.2.2.1.alloc _,HI2.out.2.2.2.1.alloc _,HI2.out.2.2.2.2.1.trans (hb.mono HI2.out.2.2.2.2.1.size),Nat.le_trans HI2.out.2.2.2.2.2 hb.size⟩,V.heap.size,a4o V ⟨u,pa,nm,tg⟩,rfl⟩,Turn.of_below hb⟩
 case body =>
  rintro l2 pre k a' V ⟨hI,Bx,hX,rfl⟩ hsz hsp
  have HIk:=ι (HI.out k)
  have H4k:=ι (H4.out k)
  have HYk:=ι fun V' hj hs hp=>HY.out (pre.filter (inDir ss i)) k V' hj hs hp
  have HI2:=ι hI
  have HIL:=ι fun V' (hb:Below V.heap.size V V')=>(show J (pre.filter (inDir ss i)) V'∧Go.Boxed V' W.heap.size 198 (.func (.yield l) #[] #[])∧Go.Boxed V' bd 28 (.pointer p)∧Go.Boxed V' bn 3 (.int .i64 i)∧Below w0.heap.size w0 V'∧W.heap.size≤V'.heap.size from⟨HJ.out _ _ _ hI.1 (Calm.of_below hb),(Calm.of_below (B:=0) hb).boxed hI.2.1,(Calm.of_below (B:=0) hb).boxed hI.2.2.1,(Calm.of_below (B:=0) hb).boxed hI.2.2.2.1,hI.2.2.2.2.1.trans (hb.mono hI.2.2.2.2.1.size),Nat.le_trans hI.2.2.2.2.2 hb.size⟩)
  have hpk:inDir ss i k=true→(pre.filter (inDir ss i))++[k] <+: those (inDir ss i) 24:=fun hk=>by
   have h:=hsp.filter (inDir ss i)
   rw[dirs,List.filter_append] at h
   simpa [hk] using h
  have HPK:=ι hpk
  have HFY:Hid (inDir ss i k=true→(pre++[k]).filter (inDir ss i)=pre.filter (inDir ss i)++[k]):=ι fun hk=>by rw[List.filter_append];simp[hk]
  have HFN:Hid (inDir ss i k=false→(pre++[k]).filter (inDir ss i)=pre.filter (inDir ss i)):=ι fun hk=>by rw[List.filter_append];simp[hk]
  have huk:entB ss k=true:=by
   have:=hsp.subset (List.mem_append_right _ (List.mem_singleton.2 rfl))
   exact(those_mem.1 this).2
  have hin:inDir ss i k=(!decide ((inoAt ss (entAt ss (k:Int)).target).kind=0) && decide ((entAt ss (k:Int)).parent=i)):=by
   rw[inDir,standB,show (entAt ss (k:Int)).used=true from huk,Bool.true_and]
  have x1:=hX.cell1
  have x3:=hX.cell3
  have bn1:=hI.2.2.2.1.cell
  have bd1:=hI.2.2.1.cell
  have by1:=hI.2.1.cell
  have x0:=hX.cell0
  have x2:=hX.cell2
  have HX:=ι hX
  have hbx:Bx<V.heap.size:=(Array.getElem?_eq_some_iff.1 hX).1
  clear hI hsp huk hpk
  generalize hxe:entAt ss (k:Int)=x at *
  generalize hye:inoAt ss x.target=y at *
  have hf:∀v,(Instr.field 50 (aggI y) 0).run Tryz.prog v = .ok (.int .i64 y.kind) v:=fun v=>fieldI0 y H4k.out v
  have HXE:=ι hxe
  have hax0:∀u,x.used=u→aggE x = .agg #[.bool u,.int .i64 x.parent,.string x.name,.int .i64 x.target]:=fun u e=>by rw[← e]
  have hax:=hax0 _ rfl
  generalize hae:aggE x=ax at *
  obtain⟨pa,hpa⟩:∃pa,x.parent=pa:=⟨_,rfl⟩
  rw[hpa] at x1 hin hax
  obtain⟨tg,htg⟩:∃tg,x.target=tg:=⟨_,rfl⟩
  rw[htg] at x3 hax HIk
  have HAX:=ι hax
  clear hxe hye hax0 hae hax hpa htg
  by_cases hp:pa=i
  ·have hpb:(pa == i)=true:=by rw[hp];simp
   by_cases hk:y.kind=0
   ·have HNO:Hid (inDir ss i k=false):=ι (by rw[hin,decide_eq_true hk];rfl)
    have hkb:(y.kind == 0)=true:=by rw[hk];rfl
    have hkn:(y.kind != 0)=false:=by rw[bne,hkb];rfl
    clear hin hk hp
    gi_wp2_with (refine⟨trivial,?_⟩;gi_at_call 24;refine(a2o (HIk.out _ HI2.out.2.2.2.2.1)).mono ?_;rintro e w3 ⟨rfl,hb3⟩;have HB3:=ι hb3;clear hb3)
    refine⟨fun _ h=>(by cases h),?_⟩
    gi_wp2
    have h:=HIL.out _ HB3.out
    exact⟨⟨by rw[HFN.out HNO.out];exact h.1,h.2⟩,Turn.of_below HB3.out⟩
   ·have HYES:Hid (inDir ss i k=true):=ι (by rw[hin,decide_eq_false hk,decide_eq_true hp];rfl)
    have hkb:(y.kind == 0)=false:=beq_eq_false_iff_ne.2 hk
    have hkn:(y.kind != 0)=true:=by rw[bne,hkb];rfl
    have HYw:=ι fun w3 (hb3:Below V.heap.size V w3)=>a4b 8 (HYk.out w3 (HIL.out w3 hb3).1 (HIL.out w3 hb3).2.2.2.2.2 (HPK.out HYES.out))
    rw[HAX.out] at HYw
    generalize x.used=xu at *
    generalize x.name=xn at *
    clear hin hk hp
    gi_wp2_with (refine⟨trivial,?_⟩;gi_at_call 24;refine(a2o (HIk.out _ HI2.out.2.2.2.2.1)).mono ?_;rintro e w3 ⟨rfl,hb3⟩;have HB3:=ι hb3;obtain⟨fn,tmps,assign,body,hy,hR⟩:=HYw.out w3 hb3;have e0:=(hb3.cell (p:=⟨Bx,0,none⟩) hbx).trans x0;have e1:=(hb3.cell (p:=⟨Bx,1,none⟩) hbx).trans x1;have e2:=(hb3.cell (p:=⟨Bx,2,none⟩) hbx).trans x2;have e3:=(hb3.cell (p:=⟨Bx,3,none⟩) hbx).trans x3;have ey:=(HIL.out w3 hb3).2.1.cell;clear hb3)
    refine RoundIn.mono (F:=Fence.wide.inRound l2) hR ?_
    rintro e W4 (⟨rfl,hJ4,hT4⟩|⟨rfl,hJx4,hT4⟩)
    ·have HJ4:=ι hJ4
     have HT4:=ι hT4
     clear hy hR hJ4 hT4
     gi_wp2
     have h:=HIL.out _ HB3.out
     have h5:=HSZ.out
     exact⟨⟨by rw[HFY.out HYES.out];exact HJ4.out,HT4.out.keep _ _ h.2.1 (fun hz=>by
       rcases HZW.out _ _ hz with hh|hh
       ·omega
       ·exact b7n hh),HT4.out.keep _ _ h.2.2.1 (HZD.out _),HT4.out.keep _ _ h.2.2.2.1 (HZN.out _),h.2.2.2.2.1.trans (HT4.out.below h.2.2.2.2.1.size fun j o hz=>HZ.out j o hz),Nat.le_trans h.2.2.2.2.2 HT4.out.size⟩,(Turn.of_below HB3.out).trans HT4.out⟩
    ·have HJX4:=ι hJx4
     have HT4:=ι hT4
     clear hy hR hJx4 hT4
     gi_wp2
     exact⟨⟨rfl,by rw[HFY.out HYES.out];exact HJX4.out⟩,(Turn.of_below HB3.out).trans (HT4.out.mono fun j o hz=>hz.imp (fun h=>by have:=HSZ.out;omega) id)⟩
  ·have hpb:(pa == i)=false:=beq_eq_false_iff_ne.2 hp
   have HNO:Hid (inDir ss i k=false):=ι (by rw[hin,decide_eq_false hp,Bool.and_false])
   clear hin hp
   gi_wp2
   refine⟨trivial,?_⟩
   gi_wp2
   refine⟨fun _ h=>(by cases h),?_⟩
   gi_wp2
   exact⟨⟨by rw[HFN.out HNO.out];exact HI2.out.1,HI2.out.2⟩,Turn.refl _ _⟩
 case done =>
  rintro D ys V hD rfl hI hK
  have HI2:=ι hI
  clear hI
  gi_wp2
  refine⟨by simp,.inl ⟨_,_,rfl,run_takeDeferred hK,?_⟩⟩
  refine⟨_,results_none rfl _ _ _,⟨_,rfl⟩,.inl ⟨_,rfl,?_⟩⟩
  have h:=HI2.out.1
  rw[dirs] at h
  exact HJ.out _ _ _ h (Calm.putObj _ (by have:=HSZ.out;omega) hK rfl)
 case stop =>
  rintro D c pre V hD hp ⟨rfl,hx⟩ hK
  have HX:=ι hx
  clear hx
  gi_wp2
  refine⟨by simp,.inl ⟨_,_,rfl,run_takeDeferred hK,?_⟩⟩
  refine⟨_,results_none rfl _ _ _,⟨_,rfl⟩,.inr ⟨_,?_,HJX.out _ _ _ HX.out (Calm.putObj _ (by have:=HSZ.out;omega) hK rfl)⟩⟩
  rw[← dirs]
  exact hp.filter _
end lk
end Go.Proofs.YtjedjkjhodgidaaGreatDoor
