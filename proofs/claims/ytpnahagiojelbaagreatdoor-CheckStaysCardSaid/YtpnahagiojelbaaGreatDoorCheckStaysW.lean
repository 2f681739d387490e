/- What CheckStays wants, part 23. -/
import Derived.Test.YtpnahagiojelbaaGreatDoorCheckStaysA
import Derived.Test.YtpnahagiojelbaaGreatDoorCheckStaysB
import Derived.Test.YtpnahagiojelbaaGreatDoorCheckStaysS
import Derived.Test.YtpnahagiojelbaaGreatDoorCheckStaysV
set_option linter.unusedVariables false
set_option linter.unusedSimpArgs false
namespace Go.Proofs.YtpnahagiojelbaaGreatDoor
namespace lk
set_option maxRecDepth 100000
open Go.ChangeShapes Go.WideShapes Go.ChangeAt Go.RowKit
open rows
open sec
open ly
open rng
attribute [local go_sem] Oper.semAt_some
def softE(o:Obj):Prop:=∃cs t fr,o = .cells cs t fr∧t≠45∧t≠216
theorem a6k(o:Obj)(h:softE o):o.isCells=true:=by
 obtain⟨cs,t,fr,rfl,_⟩:=h
 rfl
theorem c8m{v:Value}:¬softE (.cells #[v] 45 (0,0)):=fun⟨cs,t,fr,h,h1,_⟩=>by
 injection h with _ h2
 exact h1 h2.symm
theorem c8w{v:Value}:¬softE (.cells #[v] 216 (0,0)):=fun⟨cs,t,fr,h,_,h1⟩=>by
 injection h with _ h2
 exact h1 h2.symm
def those(p:Nat→Bool)(k:Nat):List Nat:=(List.range k).filter p
theorem a3y{p:Nat→Bool}{k:Nat}(h:p k=true):those p (k+1)=those p k++[k]:=by
 rw[those,List.range_succ,List.filter_append];simp[h,those]
theorem a4z{p:Nat→Bool}{k:Nat}(h:p k=false):those p (k+1)=those p k:=by
 rw[those,List.range_succ,List.filter_append];simp[h,those]
theorem a4s(p:Nat→Bool){k:Nat}:∀{m:Nat},k≤m→those p k <+: those p m
 | 0,h=>by
   obtain rfl:k=0:=by omega
   exact List.prefix_refl _
 | m+1,h=>by
  by_cases e:k=m+1
  ·subst e;exact List.prefix_refl _
  ·refine(a4s p (k:=k) (m:=m) (by omega)).trans ?_
   cases hp:p m with
   | true=>rw[a3y hp];exact List.prefix_append _ _
   | false=>rw[a4z hp];exact List.prefix_refl _
theorem those_mem{p:Nat→Bool}{k j:Nat}:j∈those p k↔j<k∧p j=true:=by simp[those]
def entB(ss:List (List Int))(k:Nat):Bool:=(entAt ss (k:Int)).used
set_option maxRecDepth 100000 in
set_option maxHeartbeats 2000000 in
theorem c2i(w0:World)(d:Value)(ss:List (List Int))(hd:Dk w0 d ss)(bd:Nat)(m:Nat→Obj→Prop)(w:World)(hb:Below w0.heap.size w0 w)(hbox:Go.Boxed w bd 45 d)(hZ:∀b o,m b o→w0.heap.size≤b)(hZd:∀v,¬m bd (.cells #[v] 45 (0,0))) :
  Seq Tryz.prog 225 #[.pointer (some ⟨bd,0,none⟩)] (fun k:Nat => #[.int .i64 (k:Int),aggE (entAt ss (k:Int))]) softE m (fun ys=>ys=those (entB ss) 24) (fun pre=>pre <+: those (entB ss) 24) w:=by
 intro l J Jx W hW _ hJ hJx hY h0
 have HJ:=ι hJ
 have HY:=ι hY
 have HZ:=ι hZ
 have HZD:=ι hZd
 have HB0:Hid (Below w0.heap.size w0 W):=ι (hb.trans (hW.mono hb.size))
 have HX0:Hid (Go.Boxed W bd 45 d):=ι ((hW.block _ hbox.lt).trans hbox)
 have H0:=ι h0
 have HE:=ι fun(k:Nat) (hk:k<24) w' (h:Below w0.heap.size w0 w')=>a8f w' d ss (k:Int) (hd.later h) (a0f (by omega))
 clear hJ hY hZ hZd hb hW hbox h0 hd hJx
 refine(callsIn_wide (n:=10)).1 (callsIn_of_wp Tryz.func225 rfl trivial ?_ rfl)
 simp only[Tryz.ntmps225,List.size_toArray,List.length_cons,List.length_nil,Nat.reduceAdd,Nat.reduceSub,Array.replicate_succ,Array.replicate_zero,List.push_toArray,List.append_toArray,List.nil_append,List.cons_append]
 gi_wp2
 gi_loopw [5] (fun kv wr=>∃k:Nat,k≤24∧kv = .int .i64 (k:Int)∧Hid (J (those (entB ss) k) wr)∧Hid (Below w0.heap.size w0 wr)∧Hid (Go.Boxed wr bd 45 d)∧Hid (W.heap.size≤wr.heap.size))
  (fun kv _=>24-(intOf kv).toNat)
 case atStart=>exact⟨0,Nat.zero_le _,rfl,H0,HB0,HX0,ι (Nat.le_refl _)⟩
 case round =>
  obtain⟨k,hk,rfl,HJS,HB,HX,HS⟩:=hrel
  by_cases hlt:k<24
  ·have hlt1:(k:Int)<24:=by omega
   have HEk:=ι (HE.out k hlt wr HB.out)
   have HYk:=ι fun W1 hj hs hp=>HY.out (those (entB ss) k) k W1 hj hs hp
   have cd:=HX.out.cell
   have hub:entB ss k=(entAt ss (k:Int)).used:=rfl
   generalize entAt ss (k:Int)=x at HEk HYk hub
   obtain⟨u,pa,nm,tg⟩:=x
   simp only at hub
   cases u with
   | false =>
    have HT:=ι (a4z hub)
    clear hub HYk
    gi_wp2_with (refine⟨trivial,?_⟩;gi_at_call 135;refine(callsIn_wide.2 HEk.out).mono ?_;rintro e w2 ⟨rfl,hb2⟩;have HB2:=ι hb2;clear hb2)
    all_goals
     refine⟨fun _ h=>(by cases h),?_⟩
     gi_wp2
     go_roundw
     case rel=>exact⟨k+1,by omega,by go_num,ι (by rw[HT.out];exact HJ.out _ _ _ HJS.out (Calm.of_below (a0a HB2.out _))),ι (HB.out.trans ((a0a HB2.out _).mono HB.out.size)),ι ((Calm.of_below (B:=0) (a0a HB2.out _)).boxed HX.out),ι (Nat.le_trans HS.out (a0a HB2.out _).size)⟩
     case measure=>simp[intOf];omega
   | true =>
    have HT:=ι (a3y hub)
    have HP:Hid (those (entB ss) k++[k] <+: those (entB ss) 24):=ι (by rw[← HT.out];exact a4s _ (by omega))
    clear hub
    have HYw:=ι fun w2 (hb2:Below wr.heap.size wr w2)=>a2d 9 (HYk.out (w2.alloc (.cells #[.bool true,.int .i64 pa,.string nm,.int .i64 tg] 170)) (HJ.out _ _ _ HJS.out (Calm.of_below (a0a hb2 _))) (Nat.le_trans HS.out (a0a hb2 _).size) HP.out)
    gi_wp2_with (refine⟨trivial,?_⟩;gi_at_call 135;refine(callsIn_wide.2 HEk.out).mono ?_;rintro e w2 ⟨rfl,hb2⟩;have HB2:=ι hb2;obtain⟨fn,tmps,assign,body,hy,hR⟩:=HYw.out w2 hb2;replace hy:(Instr.yield l #[.int .i64 (k:Int),.agg #[.bool true,.int .i64 pa,.string nm,.int .i64 tg]]).run Tryz.prog (w2.alloc (.cells #[.bool true,.int .i64 pa,.string nm,.int .i64 tg] 170)) = .ok (.round l fn tmps assign body) (w2.alloc (.cells #[.bool true,.int .i64 pa,.string nm,.int .i64 tg] 170)):=hy;clear hb2)
    refine hR.mono ?_
    have HBa:=ι (a0a HB2.out (.cells #[.bool true,.int .i64 pa,.string nm,.int .i64 tg] 170))
    rintro e W3 (⟨rfl,hJ3,hT3⟩|⟨rfl,hJx3,hT3⟩)
    ·have HJ3:=ι hJ3
     have HB3:Hid (Below w0.heap.size w0 W3):=ι ((HB.out.trans (HBa.out.mono HB.out.size)).trans (hT3.below (Nat.le_trans HB.out.size HBa.out.size) fun i o hi=>HZ.out i o hi))
     have HX3:Hid (Go.Boxed W3 bd 45 d):=ι (hT3.keep _ _ ((Calm.of_below (B:=0) HBa.out).boxed HX.out) (HZD.out _))
     have HS3:Hid (W.heap.size≤W3.heap.size):=ι (Nat.le_trans HS.out (Nat.le_trans HBa.out.size hT3.size))
     clear hy hR hJ3 hT3 HBa HB2
     gi_wp2
     go_roundw
     case rel=>exact⟨k+1,by omega,by go_num,ι (by rw[HT.out];exact HJ3.out),HB3,HX3,HS3⟩
     case measure=>simp[intOf];omega
    ·have HJX3:=ι hJx3
     clear hy hR hJx3 hT3 HBa HB2
     gi_wp2
     refine bodyPost_ret (results_none rfl _ _ _) rfl ?_
     exact⟨⟨_,rfl⟩,.inr ⟨_,HP.out,HJX3.out⟩⟩
  ·obtain rfl:k=24:=by omega
   gi_wp2
   go_end0
   exact⟨⟨_,rfl⟩,.inl ⟨_,rfl,HJS.out⟩⟩
end lk
namespace lk
set_option maxRecDepth 100000
open Go.ChangeShapes Go.WideShapes Go.ChangeAt Go.RowKit
open rows
open sec
open dsk (wf64)
open ly
open rng
attribute [local go_sem] Oper.semAt_some
theorem b8t(p:Option Addr)(w:World):Calls Tryz.prog 208 #[.pointer p] w fun e w'=>e = .returned (.func (.func 225) #[] #[.pointer (some ⟨w.heap.size,0,none⟩)])∧w'=w.alloc (.cells #[.pointer p] 45):=by
 go_enter Tryz.func208,Tryz.ntmps208
 go_wp2
 go_ret
 exact⟨rfl,rfl⟩
theorem a9l{w:World}{d:Value}{ss:List (List Int)}(h:Dk w d ss):∃p,d = .pointer p:=by
 rcases h with⟨rfl,_⟩|⟨F,st,⟨z,g,vs,vw,vn,vl,vf,rfl,_⟩,_⟩
 ·exact⟨_,rfl⟩
 ·exact⟨_,rfl⟩
def noneOf(ss:List (List Int))(i:Int)(l:List Nat):Prop:=∀k,k∈l→(entAt ss (k:Int)).target≠i
theorem d1z{ss:List (List Int)}{i:Int}(h:noneOf ss i (those (entB ss) 24))(hi:i≠0):takenB ss i=false:=by
 rw[takenB,decide_eq_false hi,Bool.or_false,namedIn,List.any_eq_false]
 intro j hj
 cases hu:(entAt ss (j:Int)).used with
 | false=>simp
 | true =>
  have:=h j (those_mem.2 ⟨List.mem_range.1 hj,hu⟩)
  simp[this]
theorem d0l{ss:List (List Int)}{i:Int}{k:Nat}(h:k∈those (entB ss) 24)(ht:(entAt ss (k:Int)).target=i):takenB ss i=true:=by
 have:namedIn ss i 24=true:=by
  rw[namedIn,List.any_eq_true]
  obtain⟨h1,h2⟩:=those_mem.1 h
  exact⟨k,List.mem_range.2 h1,by rw[show (entAt ss (k:Int)).used=true from h2,ht];simp⟩
 rw[takenB,this];rfl
set_option maxRecDepth 100000 in
set_option maxHeartbeats 2000000 in
theorem d0r(w:World)(d:Value)(ss:List (List Int))(i:Int)(h:Dk w d ss)(hi:wf64 i):Calls Tryz.prog 201 #[d,.int .i64 i] w (Rt w (.bool (takenB ss i))):=by
 by_cases hz:i=0
 ·subst hz
  have HT:Hid (takenB ss 0=true):=ι (by rw[takenB];simp)
  clear h hi
  have B1:=(Go.Boxed.new (w.alloc (.cells #[.int .i64 0] 3)) 4 (.bool false)).set (.bool true)
  rw[World.size_alloc] at B1
  have c1:=B1.cell
  clear B1
  go_enter Tryz.func201,Tryz.ntmps201
  go_wp2_with fail
  refine bodyPost_ret (v := .bool true) (by simp[results,Tryz.f201,go_sem,c1]) rfl ⟨by rw[HT.out],a0a (a0a (Below.refl _ _) _) _⟩
 ·have HD:=ι h
  obtain⟨p,rfl⟩:=a9l h
  have HZ:=ι hz
  have hzb:(i == 0)=false:=beq_eq_false_iff_ne.2 hz
  clear h hi hz
  have hB0:=a0a (a0a (a0a (Below.refl w.heap.size w) (.cells #[.int .i64 i] 3)) (.cells #[.bool false] 4)) (.cells #[.pointer p] 45)
  have b0:=((Go.Boxed.new w 3 (.int .i64 i)).alloc (.cells #[.bool false] 4)).alloc (.cells #[.pointer p] 45)
  have b1:=(Go.Boxed.new (w.alloc (.cells #[.int .i64 i] 3)) 4 (.bool false)).alloc (.cells #[.pointer p] 45)
  have b2:=Go.Boxed.new ((w.alloc (.cells #[.int .i64 i] 3)).alloc (.cells #[.bool false] 4)) 45 (.pointer p)
  simp only[World.size_alloc] at b1 b2
  have hsz:(((w.alloc (.cells #[.int .i64 i] 3)).alloc (.cells #[.bool false] 4)).alloc (.cells #[.pointer p] 45)).heap.size=w.heap.size+3:=by simp[World.size_alloc]
  obtain⟨W0,hW0⟩:∃W0,((w.alloc (.cells #[.int .i64 i] 3)).alloc (.cells #[.bool false] 4)).alloc (.cells #[.pointer p] 45)=W0:=⟨_,rfl⟩
  rw[hW0] at hB0 b0 b1 b2 hsz
  have HB0:=ι hB0
  have B0:=ι b0
  have B1:=ι b1
  have B2:=ι b2
  have HSZ:=ι hsz
  clear hB0 b0 b1 b2 hsz
  refine(callsIn_wide (n:=10)).1 (callsIn_of_wp_marks Tryz.func201 rfl trivial ?_ rfl)
  simp only[Tryz.ntmps201,List.size_toArray,List.length_cons,List.length_nil,Nat.reduceAdd,Nat.reduceSub,Array.replicate_succ,Array.replicate_zero,List.push_toArray,List.append_toArray,List.nil_append,List.cons_append]
  gi_wp2_with (refine⟨trivial,?_⟩;gi_at_call 208;refine(callsIn_wide.2 (b8t _ _)).mono ?_;rintro e w2 ⟨rfl,rfl⟩)
  try rw[hW0]
  clear hW0
  refine a1w (gf:=225) (lb := #[.pointer (some ⟨w.heap.size+1+1,0,none⟩)]) rfl (enters_of Tryz.func225 (by kernel_rfl) rfl)
   (c2i w (.pointer p) ss HD.out (w.heap.size+1+1) (fun b _=>b=W0.heap.size+1∨False) W0 HB0.out B2.out (fun b o hb=>by have:=HSZ.out;rcases hb with hb|hb;(omega);(exact hb.elim)) (fun v hb=>by have:=HSZ.out;rcases hb with hb|hb;(omega);(exact hb.elim))) (fun b o h=>h.elim) a6k (fun _=>rfl)
   (fun pre W=>noneOf ss i pre∧Go.Boxed W w.heap.size 3 (.int .i64 i)∧Go.Boxed W (w.heap.size+1) 4 (.bool false)∧Below w.heap.size w W)
   (fun c pre W=>c = .ret∧takenB ss i=true∧Go.Boxed W (w.heap.size+1) 4 (.bool true)∧Below w.heap.size w W)
   (fun s A B h hc=>⟨h.1,hc.boxed h.2.1,hc.boxed h.2.2.1,h.2.2.2.trans (hc.below (by have:=HSZ.out;omega) h.2.2.2.size)⟩)
   (fun c s A B h hc=>⟨h.1,h.2.1,hc.boxed h.2.2.1,h.2.2.2.trans (hc.below (by have:=HSZ.out;omega) h.2.2.2.size)⟩)
   ⟨fun k hk=>(by cases hk),B0.out,B1.out,HB0.out⟩
   (fun pre k a' W=>(noneOf ss i pre∧Go.Boxed W w.heap.size 3 (.int .i64 i)∧Go.Boxed W (w.heap.size+1) 4 (.bool false)∧Below w.heap.size w W)∧∃Bx,AtE W Bx (entAt ss (k:Int))∧a'={ tmps := #[.pointer p,.int .i64 i,undef,.pointer (some ⟨w.heap.size,0,none⟩),.pointer (some ⟨w.heap.size+1,0,none⟩),undef,.pointer (some ⟨Bx,0,none⟩),.int .i64 i,.bool false,.pointer p,.func (.func 225) #[] #[.pointer (some ⟨w.heap.size+1+1,0,none⟩)],.int .i64 (k:Int),aggE (entAt ss (k:Int)),undef,undef,undef,undef],defers:=[] })
   (fun s k a' A B h hc=>by
    obtain⟨h1,Bx,h2,h3⟩:=h
    exact⟨⟨h1.1,hc.boxed h1.2.1,hc.boxed h1.2.2.1,h1.2.2.2.trans (hc.below (by have:=HSZ.out;omega) h1.2.2.2.size)⟩,Bx,hc.block _ _ h2 (Or.inr rfl),h3⟩)
   ?assign ?body ?done ?stop
  case assign =>
   rintro l pre k W hI hsz _
   generalize entAt ss (k:Int)=x
   obtain⟨u,pa,nm,tg⟩:=x
   have HI:=ι hI
   clear hI
   gi_wp2
   have hb:=a0a (Below.refl W.heap.size W) (.cells #[.bool u,.int .i64 pa,.string nm,.int .i64 tg] 170)
   exact⟨⟨⟨HI.out.1,HI.out.2.1.alloc _,HI.out.2.2.1.alloc _,a0b HI.out.2.2.2 hb⟩,W.heap.size,a2t W ⟨u,pa,nm,tg⟩,rfl⟩,Turn.of_below hb⟩
  case body =>
   rintro l pre k a' W ⟨hI,Bx,hX,rfl⟩ hsz hsp
   have HI:=ι hI
   have HSP:=ι hsp
   have b0:=hI.2.1.cell
   have b1:=hI.2.2.1.cell
   have f1:=hI.2.2.1.frozen
   have x3:=hX.cell3
   obtain⟨g,hg⟩:∃g,(entAt ss (k:Int)).target=g:=⟨_,rfl⟩
   have HG:=ι hg
   rw[hg] at x3
   generalize aggE (entAt ss (k:Int))=ax
   clear hI hsp hg hX
   by_cases ht:g=i
   ·have hgb:(g == i)=true:=by rw[ht];simp
    have HTK:Hid (takenB ss i=true):=ι (d0l (HSP.out.subset (List.mem_append_right _ (List.mem_singleton.2 rfl))) (HG.out.trans ht))
    subst ht
    clear hgb
    gi_wp2
    exact⟨⟨rfl,HTK.out,HI.out.2.2.1.set _,HI.out.2.2.2.setCell (p:=⟨w.heap.size+1,0,none⟩) (Nat.le_succ _) _⟩,(Turn.of_touch ((dsk.Touch.refl _ W).setCell (S:=fun b=>b<W0.heap.size) ⟨w.heap.size+1,0,none⟩ (by show w.heap.size+1<W0.heap.size;have:=HSZ.out;omega) _)).mono fun _ _ h=>Or.inl h⟩
   ·have hgb:(g == i)=false:=beq_eq_false_iff_ne.2 ht
    have HNE:=ι ht
    clear ht
    gi_wp2
    refine⟨⟨fun j hj => ?_,HI.out.2⟩,Turn.refl _ W⟩
    rcases List.mem_append.1 hj with hj|hj
    ·exact HI.out.1 j hj
    ·rw[List.mem_singleton.1 hj,HG.out];exact HNE.out
  case done =>
   rintro D ys W hD rfl hI hK
   have HI:=ι hI
   have b1:=hI.2.2.1.cell
   have f1:=hI.2.2.1.frozen
   clear hI
   gi_wp2
   have hK':=(KeepsOthers.setCell W ⟨w.heap.size+1,0,none⟩ (.bool false)).same D _ hK rfl
   refine⟨by simp,.inl ⟨_,_,rfl,run_takeDeferred hK',?_⟩⟩
   have hb:=HI.out.2.2.2.setCell (p:=⟨w.heap.size+1,0,none⟩) (Nat.le_succ _) (.bool false)
   have hq:=cell_kept (HI.out.2.2.1.set (.bool false)).cell (grownBy_putObj' _ D (.deferred none)) (fun r e=>by cases e;exact⟨_,hK',rfl⟩)
   refine⟨.bool false,by simp[results,Tryz.f201,go_sem,hq],by rw[d1z HI.out.1 HZ.out],hb.grown (grownBy_putObj' _ D (.deferred none)) hb.size (fun k e=>by cases e;have:=HSZ.out;omega)⟩
  case stop =>
   rintro D c pre W hD hp ⟨rfl,ht,hx,hb⟩ hK
   have HB:=ι hb
   have HX:=ι hx
   have HT:=ι ht
   clear hb hx ht
   gi_wp2
   refine⟨by simp,.inl ⟨_,_,rfl,run_takeDeferred hK,?_⟩⟩
   have hq:=cell_kept HX.out.cell (grownBy_putObj' _ D (.deferred none)) (fun r e=>by cases e;exact⟨_,hK,rfl⟩)
   refine⟨.bool true,by simp[results,Tryz.f201,go_sem,hq],by rw[HT.out],HB.out.grown (grownBy_putObj' _ D (.deferred none)) HB.out.size (fun k e=>by cases e;have:=HSZ.out;omega)⟩
end lk
namespace lk
set_option maxRecDepth 100000
open Go.ChangeShapes Go.WideShapes Go.ChangeAt Go.RowKit
open rows
open sec
open ly
open rng
attribute [local go_sem] Oper.semAt_some
def inDir(ss:List (List Int))(i:Int)(k:Nat):Bool:=standB ss k && decide ((entAt ss (k:Int)).parent=i)
theorem c7a{p q:Nat→Bool}(h:∀k,q k=true→p k=true)(m:Nat):(those p m).filter q=those q m:=by
 rw[those,those,List.filter_filter]
 congr 1
 funext k
 cases hq:q k with
 | true=>rw[h k hq];rfl
 | false=>rfl
theorem c5y{ss:List (List Int)}{i:Int}{k:Nat}(h:inDir ss i k=true):entB ss k=true:=by
 rw[inDir,standB,Bool.and_eq_true,Bool.and_eq_true] at h
 exact h.1.1
theorem dirs(ss:List (List Int))(i:Int):(those (entB ss) 24).filter (inDir ss i)=those (inDir ss i) 24:=c7a (fun k h=>c5y h) 24
theorem b1h(p:Option Addr)(i:Int)(w:World):Calls Tryz.prog 174 #[.pointer p,.int .i64 i] w fun e w'=>e = .returned (.func (.func 207) #[] #[.pointer (some ⟨w.heap.size,0,none⟩),.pointer (some ⟨w.heap.size+1,0,none⟩)])∧w'=(w.alloc (.cells #[.pointer p] 45)).alloc (.cells #[.int .i64 i] 3):=by
 go_enter Tryz.func174,Tryz.ntmps174
 go_wp2
 go_ret
 exact⟨rfl,rfl⟩
set_option maxRecDepth 100000 in
set_option maxHeartbeats 4000000 in
theorem b3u(w0:World)(p:Option Addr)(ss:List (List Int))(hd:Dk w0 (.pointer p) ss)(i:Int)(bd bn:Nat)(m:Nat→Obj→Prop)(w:World)(hb:Below w0.heap.size w0 w)(hbd:Go.Boxed w bd 45 (.pointer p))(hbn:Go.Boxed w bn 3 (.int .i64 i))(hZ:∀b o,m b o→w0.heap.size≤b)(hZd:∀o,¬m bd o)(hZn:∀o,¬m bn o) :
  Seq Tryz.prog 207 #[.pointer (some ⟨bd,0,none⟩),.pointer (some ⟨bn,0,none⟩)] (fun k:Nat => #[.int .i64 (k:Int),aggE (entAt ss (k:Int))]) softE m (fun ys=>ys=those (inDir ss i) 24) (fun pre=>pre <+: those (inDir ss i) 24) w:=by
 intro l J Jx W hW hZW hJ hJx hY h0
 have HJ:=ι hJ
 have HJX:=ι hJx
 have HY:=ι hY
 have HZ:=ι hZ
 have HZD:=ι hZd
 have HZN:=ι hZn
 have HZW:=ι hZW
 have HD:=ι hd
 have hB0:Below w0.heap.size w0 W:=hb.trans (hW.mono hb.size)
 have HS0:=ι hB0.size
 have hX0:Go.Boxed W bd 45 (.pointer p):=(hW.block _ hbd.lt).trans hbd
 have hN0:Go.Boxed W bn 3 (.int .i64 i):=(hW.block _ hbn.lt).trans hbn
 have HI:=ι fun(k:Nat) w' (h:Below w0.heap.size w0 w')=>a4a w' (.pointer p) ss (entAt ss (k:Int)).target (hd.later h) (by have:=a5j hd.secs.1 (k:Int);exact a0f (by omega))
 have H4:=ι fun(k:Nat)=>a0q hd.secs.1 (entAt ss (k:Int)).target
 have hb1:=a0a (a0a (Below.refl W.heap.size W) (.cells #[.func (.yield l) #[] #[]] 216)) (.cells #[.pointer p] 45)
 have hy1:=(Go.Boxed.new W 216 (.func (.yield l) #[] #[])).alloc (.cells #[.pointer p] 45)
 have hd1:=Go.Boxed.new (W.alloc (.cells #[.func (.yield l) #[] #[]] 216)) 45 (.pointer p)
 rw[World.size_alloc] at hd1
 have hsz:((W.alloc (.cells #[.func (.yield l) #[] #[]] 216)).alloc (.cells #[.pointer p] 45)).heap.size=W.heap.size+2:=by simp[World.size_alloc]
 have cd:(W.alloc (.cells #[.func (.yield l) #[] #[]] 216)).cell? ⟨bd,0,none⟩=some (.pointer p):=(hX0.alloc _).cell
 obtain⟨W2,hW2⟩:∃W2,(W.alloc (.cells #[.func (.yield l) #[] #[]] 216)).alloc (.cells #[.pointer p] 45)=W2:=⟨_,rfl⟩
 rw[hW2] at hb1 hy1 hd1 hsz
 have HB2:Hid (Below w0.heap.size w0 W2):=ι (hB0.trans (hb1.mono hB0.size))
 have HX2:Hid (Go.Boxed W2 bd 45 (.pointer p)):=ι ((Calm.of_below (B:=0) hb1).boxed hX0)
 have HN2:Hid (Go.Boxed W2 bn 3 (.int .i64 i)):=ι ((Calm.of_below (B:=0) hb1).boxed hN0)
 have HY2:=ι hy1
 have HD2:=ι hd1
 have HSZ:=ι hsz
 have HJ2:Hid (J [] W2):=ι (hJ _ _ _ h0 (Calm.of_below hb1))
 clear hJ hY hZ hZd hZn hb hW hbd hbn h0 hd hJx hZW hB0 hX0 hN0 hb1 hy1 hd1 hsz
 refine(callsIn_wide (n:=10)).1 (callsIn_of_wp_marks Tryz.func207 rfl trivial ?_ rfl)
 simp only[Tryz.ntmps207,List.size_toArray,List.length_cons,List.length_nil,Nat.reduceAdd,Nat.reduceSub,Array.replicate_succ,Array.replicate_zero,List.push_toArray,List.append_toArray,List.nil_append,List.cons_append]
 gi_wp2_with (refine⟨trivial,?_⟩;gi_at_call 208;refine(callsIn_wide.2 (b8t _ _)).mono ?_;rintro e w2 ⟨rfl,rfl⟩)
 try rw[hW2]
 clear hW2 cd
 refine a1w (gf:=225) (lb := #[.pointer (some ⟨W.heap.size+1,0,none⟩)]) rfl (enters_of Tryz.func225 (by kernel_rfl) rfl)
  (c2i w0 (.pointer p) ss HD.out (W.heap.size+1) (fun b o=>b=W2.heap.size+1∨m b o) W2 HB2.out HD2.out (fun b o hb=>by
   have h1:=HSZ.out
   have h2:=HS0.out
   rcases hb with hb|hb
   ·omega
   ·exact HZ.out b o hb) (fun v hb=>by
   have h1:=HSZ.out
   rcases hb with hb|hb
   ·omega
   ·rcases HZW.out _ _ hb with h|h
    ·omega
    ·exact c8m h)) (fun b o h=>(HZW.out b o h).imp (fun h=>by have:=HSZ.out;omega) id) a6k (fun _=>rfl)
  (fun pre V=>J (pre.filter (inDir ss i)) V∧Go.Boxed V W.heap.size 216 (.func (.yield l) #[] #[])∧Go.Boxed V bd 45 (.pointer p)∧Go.Boxed V bn 3 (.int .i64 i)∧Below w0.heap.size w0 V∧W.heap.size≤V.heap.size)
  (fun c pre V=>c = .ret∧Jx (pre.filter (inDir ss i)) V)
  (fun s A B h hc=>⟨HJ.out _ _ _ h.1 (hc.mono (by have:=HSZ.out;omega)),hc.boxed h.2.1,hc.boxed h.2.2.1,hc.boxed h.2.2.2.1,h.2.2.2.2.1.trans (hc.below (by have:=HSZ.out;have:=HS0.out;omega) h.2.2.2.2.1.size),Nat.le_trans h.2.2.2.2.2 hc.size⟩)
  (fun c s A B h hc=>⟨h.1,HJX.out _ _ _ h.2 (hc.mono (by have:=HSZ.out;omega))⟩)
  ⟨HJ2.out,HY2.out,HX2.out,HN2.out,HB2.out,by have:=HSZ.out;omega⟩
  (fun pre k a' V=>(J (pre.filter (inDir ss i)) V∧Go.Boxed V W.heap.size 216 (.func (.yield l) #[] #[])∧Go.Boxed V bd 45 (.pointer p)∧Go.Boxed V bn 3 (.int .i64 i)∧Below w0.heap.size w0 V∧W.heap.size≤V.heap.size)∧∃Bx,AtE V Bx (entAt ss (k:Int))∧a'={ tmps := #[.func (.yield l) #[] #[],.pointer (some ⟨bd,0,none⟩),.pointer (some ⟨bn,0,none⟩),.pointer (some ⟨W.heap.size,0,none⟩),.int .i64 (k:Int),.pointer (some ⟨Bx,0,none⟩),undef,.pointer p,.func (.func 225) #[] #[.pointer (some ⟨W.heap.size+1,0,none⟩)],.int .i64 (k:Int),aggE (entAt ss (k:Int)),undef,undef,undef,undef,undef,undef,undef,undef,undef,undef,undef,undef,undef,undef,undef,undef,undef,undef,undef,undef],defers:=[] })
  (fun s k a' A B h hc=>by
   obtain⟨h1,Bx,h2,h3⟩:=h
   exact⟨⟨HJ.out _ _ _ h1.1 (hc.mono (by have:=HSZ.out;omega)),hc.boxed h1.2.1,hc.boxed h1.2.2.1,hc.boxed h1.2.2.2.1,h1.2.2.2.2.1.trans (hc.below (by have:=HSZ.out;have:=HS0.out;omega) h1.2.2.2.2.1.size),Nat.le_trans h1.2.2.2.2.2 hc.size⟩,Bx,hc.block _ _ h2 (Or.inr rfl),h3⟩)
  ?assign ?body ?done ?stop
 case assign =>
  rintro l2 pre k V hI hsz _
  generalize entAt ss (k:Int)=x
  obtain⟨u,pa,nm,tg⟩:=x
  have HI2:=ι hI
  clear hI
  gi_wp2
  have hb:=a0a (Below.refl V.heap.size V) (.cells #[.bool u,.int .i64 pa,.string nm,.int .i64 tg] 170)
  exact⟨⟨⟨HJ.out _ _ _ HI2.out.1 (Calm.of_below hb),HI2.out.2.1.alloc _,HI2.out.2.2.1.alloc _,HI2.out.2.2.2.1.alloc _,HI2.out.2.2.2.2.1.trans (hb.mono HI2.out.2.2.2.2.1.size),Nat.le_trans HI2.out.2.2.2.2.2 hb.size⟩,V.heap.size,a2t V ⟨u,pa,nm,tg⟩,rfl⟩,Turn.of_below hb⟩
 case body =>
  rintro l2 pre k a' V ⟨hI,Bx,hX,rfl⟩ hsz hsp
  have HIk:=ι (HI.out k)
  have H4k:=ι (H4.out k)
  have HYk:=ι fun V' hj hs hp=>HY.out (pre.filter (inDir ss i)) k V' hj hs hp
  have HI2:=ι hI
  have HIL:=ι fun V' (hb:Below V.heap.size V V')=>(show J (pre.filter (inDir ss i)) V'∧Go.Boxed V' W.heap.size 216 (.func (.yield l) #[] #[])∧Go.Boxed V' bd 45 (.pointer p)∧Go.Boxed V' bn 3 (.int .i64 i)∧Below w0.heap.size w0 V'∧W.heap.size≤V'.heap.size from⟨HJ.out _ _ _ hI.1 (Calm.of_below hb),(Calm.of_below (B:=0) hb).boxed hI.2.1,(Calm.of_below (B:=0) hb).boxed hI.2.2.1,(Calm.of_below (B:=0) hb).boxed hI.2.2.2.1,hI.2.2.2.2.1.trans (hb.mono hI.2.2.2.2.1.size),Nat.le_trans hI.2.2.2.2.2 hb.size⟩)
  have hpk:inDir ss i k=true→(pre.filter (inDir ss i))++[k] <+: those (inDir ss i) 24:=fun hk=>by
   have h:=hsp.filter (inDir ss i)
   rw[dirs,List.filter_append] at h
   simpa [hk] using h
  have HPK:=ι hpk
  have HFY:Hid (inDir ss i k=true→(pre++[k]).filter (inDir ss i)=pre.filter (inDir ss i)++[k]):=ι fun hk=>by rw[List.filter_append];simp[hk]
  have HFN:Hid (inDir ss i k=false→(pre++[k]).filter (inDir ss i)=pre.filter (inDir ss i)):=ι fun hk=>by rw[List.filter_append];simp[hk]
  have huk:entB ss k=true:=by
   have:=hsp.subset (List.mem_append_right _ (List.mem_singleton.2 rfl))
   exact(those_mem.1 this).2
  have hin:inDir ss i k=(!decide ((inoAt ss (entAt ss (k:Int)).target).kind=0) && decide ((entAt ss (k:Int)).parent=i)):=by
   rw[inDir,standB,show (entAt ss (k:Int)).used=true from huk,Bool.true_and]
  have x1:=hX.cell1
  have x3:=hX.cell3
  have bn1:=hI.2.2.2.1.cell
  have bd1:=hI.2.2.1.cell
  have by1:=hI.2.1.cell
  have x0:=hX.cell0
  have x2:=hX.cell2
  have HX:=ι hX
  have hbx:Bx<V.heap.size:=(Array.getElem?_eq_some_iff.1 hX).1
  clear hI hsp huk hpk
  generalize hxe:entAt ss (k:Int)=x at *
  generalize hye:inoAt ss x.target=y at *
  have hf:∀v,(Instr.field 75 (aggI y) 0).run Tryz.prog v = .ok (.int .i64 y.kind) v:=fun v=>fieldI0 y H4k.out v
  have HXE:=ι hxe
  have hax0:∀u,x.used=u→aggE x = .agg #[.bool u,.int .i64 x.parent,.string x.name,.int .i64 x.target]:=fun u e=>by rw[← e]
  have hax:=hax0 _ rfl
  generalize hae:aggE x=ax at *
  obtain⟨pa,hpa⟩:∃pa,x.parent=pa:=⟨_,rfl⟩
  rw[hpa] at x1 hin hax
  obtain⟨tg,htg⟩:∃tg,x.target=tg:=⟨_,rfl⟩
  rw[htg] at x3 hax HIk
  have HAX:=ι hax
  clear hxe hye hax0 hae hax hpa htg
  by_cases hp:pa=i
  ·have hpb:(pa == i)=true:=by rw[hp];simp
   by_cases hk:y.kind=0
   ·have HNO:Hid (inDir ss i k=false):=ι (by rw[hin,decide_eq_true hk];rfl)
    have hkb:(y.kind == 0)=true:=by rw[hk];rfl
    have hkn:(y.kind != 0)=false:=by rw[bne,hkb];rfl
    clear hin hk hp
    gi_wp2_with (refine⟨trivial,?_⟩;gi_at_call 83;refine(a2h (HIk.out _ HI2.out.2.2.2.2.1)).mono ?_;rintro e w3 ⟨rfl,hb3⟩;have HB3:=ι hb3;clear hb3)
    refine⟨fun _ h=>(by cases h),?_⟩
    gi_wp2
    have h:=HIL.out _ HB3.out
    exact⟨⟨by rw[HFN.out HNO.out];exact h.1,h.2⟩,Turn.of_below HB3.out⟩
   ·have HYES:Hid (inDir ss i k=true):=ι (by rw[hin,decide_eq_false hk,decide_eq_true hp];rfl)
    have hkb:(y.kind == 0)=false:=beq_eq_false_iff_ne.2 hk
    have hkn:(y.kind != 0)=true:=by rw[bne,hkb];rfl
    have HYw:=ι fun w3 (hb3:Below V.heap.size V w3)=>a2d 8 (HYk.out w3 (HIL.out w3 hb3).1 (HIL.out w3 hb3).2.2.2.2.2 (HPK.out HYES.out))
    rw[HAX.out] at HYw
    generalize x.used=xu at *
    generalize x.name=xn at *
    clear hin hk hp
    gi_wp2_with (refine⟨trivial,?_⟩;gi_at_call 83;refine(a2h (HIk.out _ HI2.out.2.2.2.2.1)).mono ?_;rintro e w3 ⟨rfl,hb3⟩;have HB3:=ι hb3;obtain⟨fn,tmps,assign,body,hy,hR⟩:=HYw.out w3 hb3;have e0:=(hb3.cell (p:=⟨Bx,0,none⟩) hbx).trans x0;have e1:=(hb3.cell (p:=⟨Bx,1,none⟩) hbx).trans x1;have e2:=(hb3.cell (p:=⟨Bx,2,none⟩) hbx).trans x2;have e3:=(hb3.cell (p:=⟨Bx,3,none⟩) hbx).trans x3;have ey:=(HIL.out w3 hb3).2.1.cell;clear hb3)
    refine RoundIn.mono (F:=Fence.wide.inRound l2) hR ?_
    rintro e W4 (⟨rfl,hJ4,hT4⟩|⟨rfl,hJx4,hT4⟩)
    ·have HJ4:=ι hJ4
     have HT4:=ι hT4
     clear hy hR hJ4 hT4
     gi_wp2
     have h:=HIL.out _ HB3.out
     have h5:=HSZ.out
     exact⟨⟨by rw[HFY.out HYES.out];exact HJ4.out,HT4.out.keep _ _ h.2.1 (fun hz=>by
       rcases HZW.out _ _ hz with hh|hh
       ·omega
       ·exact c8w hh),HT4.out.keep _ _ h.2.2.1 (HZD.out _),HT4.out.keep _ _ h.2.2.2.1 (HZN.out _),h.2.2.2.2.1.trans (HT4.out.below h.2.2.2.2.1.size fun j o hz=>HZ.out j o hz),Nat.le_trans h.2.2.2.2.2 HT4.out.size⟩,(Turn.of_below HB3.out).trans HT4.out⟩
    ·have HJX4:=ι hJx4
     have HT4:=ι hT4
     clear hy hR hJx4 hT4
     gi_wp2
     exact⟨⟨rfl,by rw[HFY.out HYES.out];exact HJX4.out⟩,(Turn.of_below HB3.out).trans (HT4.out.mono fun j o hz=>hz.imp (fun h=>by have:=HSZ.out;omega) id)⟩
  ·have hpb:(pa == i)=false:=beq_eq_false_iff_ne.2 hp
   have HNO:Hid (inDir ss i k=false):=ι (by rw[hin,decide_eq_false hp,Bool.and_false])
   clear hin hp
   gi_wp2
   refine⟨trivial,?_⟩
   gi_wp2
   refine⟨fun _ h=>(by cases h),?_⟩
   gi_wp2
   exact⟨⟨by rw[HFN.out HNO.out];exact HI2.out.1,HI2.out.2⟩,Turn.refl _ _⟩
 case done =>
  rintro D ys V hD rfl hI hK
  have HI2:=ι hI
  clear hI
  gi_wp2
  refine⟨by simp,.inl ⟨_,_,rfl,run_takeDeferred hK,?_⟩⟩
  refine⟨_,results_none rfl _ _ _,⟨_,rfl⟩,.inl ⟨_,rfl,?_⟩⟩
  have h:=HI2.out.1
  rw[dirs] at h
  exact HJ.out _ _ _ h (Calm.putObj _ (by have:=HSZ.out;omega) hK rfl)
 case stop =>
  rintro D c pre V hD hp ⟨rfl,hx⟩ hK
  have HX:=ι hx
  clear hx
  gi_wp2
  refine⟨by simp,.inl ⟨_,_,rfl,run_takeDeferred hK,?_⟩⟩
  refine⟨_,results_none rfl _ _ _,⟨_,rfl⟩,.inr ⟨_,?_,HJX.out _ _ _ HX.out (Calm.putObj _ (by have:=HSZ.out;omega) hK rfl)⟩⟩
  rw[← dirs]
  exact hp.filter _
end lk
namespace al
set_option maxRecDepth 100000
open Go.ChangeShapes Go.WideShapes Go.ChangeAt Go.RowKit
open rows
open sec
open dsk (a0e a0c a0d)
open ly
open lk
def AtB(w:World)(T:TypeId)(g:Nat)(l:List Bool):Prop:=w.heap[g]? = some (.cells (boolsV l).toArray T (0,0))
theorem AtB.lt{w:World}{T:TypeId}{g:Nat}{l:List Bool}(h:AtB w T g l):g<w.heap.size:=(Array.getElem?_eq_some_iff.1 h).1
theorem AtB.later{w w':World}{T:TypeId}{g:Nat}{l:List Bool}(h:AtB w T g l)(k:Below w.heap.size w w'):AtB w' T g l:=(k.block g h.lt).trans h
theorem AtB.below{w w':World}{B:Nat}{T:TypeId}{g:Nat}{l:List Bool}(h:AtB w T g l)(k:Below B w w')(hg:g<B):AtB w' T g l:=(k.block g hg).trans h
theorem AtB.cell{w:World}{T:TypeId}{g:Nat}{l:List Bool}(h:AtB w T g l){k:Nat}(hk:k<l.length):w.cell? ⟨g,k,none⟩=some (.bool (l.getD k false)) :=
 a0c h k _ (by simp[boolsV,List.getD,hk])
theorem AtB.frozen{w:World}{T:TypeId}{g:Nat}{l:List Bool}(h:AtB w T g l)(k:Nat):w.frozen? ⟨g,k,none⟩=false:=a0d h k
theorem AtB.set{w:World}{T:TypeId}{g:Nat}{l:List Bool}(h:AtB w T g l)(k:Nat)(b:Bool):AtB (w.setCell ⟨g,k,none⟩ (.bool b)) T g (l.set k b):=by
 unfold AtB
 rw[a0e h]
 congr 2
 simp[boolsV,List.map_set]
theorem AtB.other{w:World}{T:TypeId}{g k j:Nat}{l:List Bool}(h:AtB w T k l)(hk:k≠g)(v:Value):AtB (w.setCell ⟨g,j,none⟩ v) T k l:=(Below.heap_setCell _ _ _ _ hk).trans h
theorem b0r(w:World)(T:TypeId)(l:List Bool):AtB (w.alloc (.cells (boolsV l).toArray T)) T w.heap.size l:=heap_alloc_new _ _
structure RowTy (T:TypeId) (n:Nat):Prop where
 und:∃k e,Tryz.prog.underlying T=some (.array k e)
 info:(Tryz.prog.info? T).map (·.size)=some n
theorem rowE:RowTy 233 24:=⟨⟨_,_,Tryz.underlying233⟩,by kernel_rfl⟩
theorem rowI:RowTy 235 16:=⟨⟨_,_,Tryz.underlying235⟩,by kernel_rfl⟩
theorem rowB:RowTy 275 25:=⟨⟨_,_,Tryz.underlying275⟩,by kernel_rfl⟩
theorem c9b{T:TypeId}{n:Nat}(R:RowTy T n){ops:Array Oper}{rest:List Oper}{o:Oper}{a:Act}{w:World}{Q:Exit→Act→World→Prop}(hgd:o.guard=none)(x:Operand)(ho:o.op = .load T x)
  (g:Nat) (hx:a.eval x = .pointer (some ⟨g,0,none⟩)) (l:List Bool) (hs:l.length=n) (hg:AtB w T g l)
  (h:wpList Tryz.prog ops Q rest (a.put o.dst (aggM l)) w):wpList Tryz.prog ops Q (o::rest) a w:=by
 obtain⟨d,e,hu⟩:=R.und
 exact wpList_load_row hgd T x ho g hx T _ _ _ hg hu rfl (by rw[R.info];simp[boolsV,hs]) h
theorem c6r{T:TypeId}{n:Nat}(R:RowTy T n){ops:Array Oper}{rest:List Oper}{o:Oper}{a:Act}{w:World}{Q:Exit→Act→World→Prop}(hgd:o.guard=none)(x y:Operand)(ho:o.op = .store T x y)(hd:o.dst=none)
  (g:Nat) (s old:List Bool) (hx:a.eval x = .pointer (some ⟨g,0,none⟩)) (hy:a.eval y=aggM s) (hs:s.length=n) (hold:old.length=n) (hg:AtB w T g old)
  (h:∀w',AtB w' T g s→Below g w w'→wpList Tryz.prog ops Q rest a w'):wpList Tryz.prog ops Q (o::rest) a w:=by
 have hl:(boolsV s).toArray.size=n:=by simp[boolsV,hs]
 refine wpList_store_row hgd T x y ho g (boolsV s).toArray hx hy T _ hg (by rw[R.info,hl]) (by simp[boolsV,hs,hold]) (by simp only[List.all_toArray];exact List.all_eq_true.2 (a9b s)) ?_
 rw[hd]
 exact h _ (setRow_heap w g _ _ _ _ hg) ((Below.refl g w).trans ⟨rfl,rfl,rfl,by simp[World.setRow],fun k hk=>setRow_other w g k _ (by omega)⟩)
theorem b4t(p:Option Addr)(m c:Nat)(z:Int)(w:World):Calls Tryz.prog 167 #[.slice p m c,.int .i64 z] w fun e w'=>e = .returned (.func (.func 203) #[] #[.pointer (some ⟨w.heap.size+1,0,none⟩),.pointer (some ⟨w.heap.size,0,none⟩)])∧w'=(w.alloc (.cells #[.slice p m c] 240)).alloc (.cells #[.int .i64 z] 3):=by
 go_enter Tryz.func167,Tryz.ntmps167
 go_wp2
 go_ret
 exact⟨rfl,rfl⟩
structure UnAt (w:World) (T:TypeId) (gf gm g:Nat) (l:List Bool) (f:Nat):Prop where
 first:Go.Boxed w gf 3 (.int .i64 (f:Int))
 marks:Go.Boxed w gm 240 (.slice (some ⟨g,0,none⟩) l.length l.length)
 row:AtB w T g l
 f1:gf≠gm
 f2:gf≠g
theorem UnAt.below{w w':World}{T:TypeId}{gf gm g B:Nat}{l:List Bool}{f:Nat}(h:UnAt w T gf gm g l f)(k:Below B w w')(h1:gf<B)(h2:gm<B)(h3:g<B):UnAt w' T gf gm g l f :=
 ⟨(k.block gf h1).trans h.first,(k.block gm h2).trans h.marks,h.row.below k h3,h.f1,h.f2⟩
theorem UnAt.set{w:World}{T:TypeId}{gf gm g:Nat}{l:List Bool}{f:Nat}(h:UnAt w T gf gm g l f)(n:Nat):UnAt (w.setCell ⟨gf,0,none⟩ (.int .i64 (n:Int))) T gf gm g l n :=
 ⟨h.first.set _,h.marks.other (fun e=>h.f1 e.symm) _,h.row.other (fun e=>h.f2 e.symm) _,h.f1,h.f2⟩
def nextV(l:List Bool)(f:Nat):Value:=optV (nextF l f)
def nextW(w:World)(gf:Nat)(l:List Bool)(f:Nat):World:=match nextF l f with
 | some n=>w.setCell ⟨gf,0,none⟩ (.int .i64 ((n+1:Nat):Int))
 | none=>w
set_option maxRecDepth 100000 in
theorem next_any(w:World)(T:TypeId)(gf gm g:Nat)(l:List Bool)(f:Nat)(h:UnAt w T gf gm g l f)(hl:l.length≤25)(hf:f≤l.length) :
  Calls Tryz.prog 203 #[.pointer (some ⟨gf,0,none⟩),.pointer (some ⟨gm,0,none⟩)] w fun e w'=>e = .returned (nextV l f)∧w'=nextW w gf l f:=by
 have HH:=ι h
 have hc1:=h.first.cell
 have hf1:=h.first.frozen
 have hc2:=h.marks.cell
 have HHit:=ι fun n h1 h2 h3 h4=>c6x (l:=l) (f:=f) (n:=n) h1 h2 h3 h4
 have HMiss:=ι fun h=>c5e (l:=l) (f:=f) h
 have HC:=ι fun k hk=>h.row.cell (k:=k) hk
 have HLn:Hid (∀n,nextF l f=some n→nextV l f = .tuple #[.int .i64 (n:Int),.bool true]∧nextW w gf l f=w.setCell ⟨gf,0,none⟩ (.int .i64 ((n+1:Nat):Int))):=ι fun n e=>by
  constructor
  ·rw[nextV,e];rfl
  ·rw[nextW,e]
 have HNn:Hid (nextF l f=none→nextV l f = .tuple #[.int .i64 0,.bool false]∧nextW w gf l f=w):=ι fun e=>by
  constructor
  ·rw[nextV,e];rfl
  ·rw[nextW,e]
 obtain⟨m,hm⟩:∃m,l.length=m:=⟨_,rfl⟩
 rw[hm] at hl hf hc2 HHit HMiss HC
 clear h
 generalize nextV l f=nv at *
 generalize nextW w gf l f=nw at *
 clear hm
 go_enter Tryz.func203,Tryz.ntmps203
 go_wp2_with fail
 go_loopw [4] (fun kv wr=>∃k:Nat,f≤k∧k≤m∧kv = .int .i64 (k:Int)∧Hid (∀i,f≤i→i<k→l.getD i false=true)∧wr=w) (fun kv _=>m-(intOf kv).toNat)
 case atStart=>exact⟨f,Nat.le_refl _,hf,rfl,ι (fun i h1 h2=>by omega),rfl⟩
 case round =>
  obtain⟨k,hfk,hk,rfl,HS,rfl⟩:=hrel
  by_cases hlt:k<m
  ·have hlti:(k:Int)<(m:Int):=by omega
   have hck:=HC.out k hlt
   cases hu:l.getD k false with
   | true =>
    rw[hu] at hck
    have HU:=ι hu
    clear hu
    go_wp2_with fail
    go_roundw
    case rel=>exact⟨k+1,by omega,by omega,by go_num,ι (fun i h1 h2=>by
     by_cases e:i=k
     ·rw[e];exact HU.out
     ·exact HS.out i h1 (by omega)),trivial⟩
    case measure=>simp[intOf];omega
   | false =>
    rw[hu] at hck
    obtain⟨e1,e2⟩:=HLn.out k (HHit.out k hfk hlt hu HS.out)
    have E2:=ι e2
    subst e1
    clear e2 hu
    go_wp2_with fail
    go_ret2
    exact⟨rfl,by rw[E2.out];go_num⟩
  ·obtain rfl:k=m:=by omega
   obtain⟨e1,e2⟩:=HNn.out (HMiss.out HS.out)
   have E2:=ι e2
   subst e1
   clear e2
   go_wp2_with fail
   go_ret2
   exact⟨rfl,E2.out.symm⟩
end al
namespace al
set_option maxRecDepth 100000
open Go.ChangeShapes Go.WideShapes Go.ChangeAt Go.RowKit
open rows
open sec
open ly
open lk
theorem lit24:(#[.bool false,.bool false,.bool false,.bool false,.bool false,.bool false,.bool false,.bool false,.bool false,.bool false,.bool false,.bool false,.bool false,.bool false,.bool false,.bool false,.bool false,.bool false,.bool false,.bool false,.bool false,.bool false,.bool false,.bool false]:Array Value)=(boolsV (List.replicate 24 false)).toArray:=by kernel_rfl
theorem lit16:(#[.bool false,.bool false,.bool false,.bool false,.bool false,.bool false,.bool false,.bool false,.bool false,.bool false,.bool false,.bool false,.bool false,.bool false,.bool false,.bool false]:Array Value)=(boolsV (List.replicate 16 false)).toArray:=by kernel_rfl
theorem lit16r:(#[.bool true,.bool false,.bool false,.bool false,.bool false,.bool false,.bool false,.bool false,.bool false,.bool false,.bool false,.bool false,.bool false,.bool false,.bool false,.bool false]:Array Value)=(boolsV (true::List.replicate 15 false)).toArray:=by kernel_rfl
theorem atE24(w:World):AtB (w.alloc (.cells #[.bool false,.bool false,.bool false,.bool false,.bool false,.bool false,.bool false,.bool false,.bool false,.bool false,.bool false,.bool false,.bool false,.bool false,.bool false,.bool false,.bool false,.bool false,.bool false,.bool false,.bool false,.bool false,.bool false,.bool false] 233)) 233 w.heap.size (List.replicate 24 false):=by
 rw[lit24];exact b0r w _ _
theorem atI16(w:World):AtB (w.alloc (.cells #[.bool false,.bool false,.bool false,.bool false,.bool false,.bool false,.bool false,.bool false,.bool false,.bool false,.bool false,.bool false,.bool false,.bool false,.bool false,.bool false] 235)) 235 w.heap.size (List.replicate 16 false):=by
 rw[lit16];exact b0r w _ _
theorem atI16r(w:World):AtB (w.alloc (.cells #[.bool true,.bool false,.bool false,.bool false,.bool false,.bool false,.bool false,.bool false,.bool false,.bool false,.bool false,.bool false,.bool false,.bool false,.bool false,.bool false] 235)) 235 w.heap.size (true::List.replicate 15 false):=by
 rw[lit16r];exact b0r w _ _
structure NAt (w:World) (ss:List (List Int)) (k:Nat) (wr:World):Prop where
 r0:AtB wr 233 w.heap.size (List.replicate 24 false)
 r1:AtB wr 235 (w.heap.size+1) (List.replicate 16 false)
 re:AtB wr 233 (w.heap.size+2) (eU ss k)
 ri:AtB wr 235 (w.heap.size+3) (iU ss k)
 below:Below w.heap.size w wr
theorem NAt.later{w:World}{ss:List (List Int)}{k:Nat}{a b:World}(h:NAt w ss k a)(l:Below a.heap.size a b):NAt w ss k b:=⟨h.r0.later l,h.r1.later l,h.re.later l,h.ri.later l,a0b h.below l⟩
theorem NAt.setE{w:World}{ss:List (List Int)}{k:Nat}{a:World}(h:NAt w ss k a)(hu:(entAt ss (k:Int)).used=true)(z:Nat)(hz:(entAt ss (k:Int)).target=(z:Int)) :
  NAt w ss (k+1) ((a.setCell ⟨w.heap.size+2,k,none⟩ (.bool true)).setCell ⟨w.heap.size+3,z,none⟩ (.bool true)) where
 r0:=(h.r0.other (by omega) _).other (by omega) _
 r1:=(h.r1.other (by omega) _).other (by omega) _
 re:=by
  rw[eU,hu,if_pos rfl]
  exact(h.re.set k true).other (by omega) _
 ri:=by
  rw[iU,hu,if_pos rfl,hz,Int.toNat_natCast]
  exact(h.ri.other (by omega) _).set z true
 below:=(h.below.setCell (p:=⟨w.heap.size+2,k,none⟩) (by simp) _).setCell (p:=⟨w.heap.size+3,z,none⟩) (by simp) _
theorem NAt.skip{w:World}{ss:List (List Int)}{k:Nat}{a:World}(h:NAt w ss k a)(hu:(entAt ss (k:Int)).used=false):NAt w ss (k+1) a where
 r0:=h.r0
 r1:=h.r1
 re:=by
  rw[eU,hu,if_neg (by decide)]
  exact h.re
 ri:=by
  rw[iU,hu,if_neg (by decide)]
  exact h.ri
 below:=h.below
theorem AtB.range{w:World}{T:TypeId}{g:Nat}{l:List Bool}(h:AtB w T g l):w.rangeAt g 0 (boolsV l):=fun i u hi=>by
 have hl:i<l.length:=by
  have:=(List.getElem?_eq_some_iff.1 hi).1
  rwa [c4i] at this
 rw[Nat.zero_add,h.cell hl]
 rw[← hi]
 simp[boolsV,List.getD,hl]
theorem ld_b{T:TypeId}{n:Nat}(R:RowTy T n){ops:Array Oper}{S:World→Prop}{op:Oper}{a:Act}(hw:Region.wanted op (yielded ops a.tmps)=true)(x:Operand)(ho:op.op = .load T x)
  (g:Nat) (hx:a.eval x = .pointer (some ⟨g,0,none⟩)) (l:List Bool) (hs:l.length=n) (hS:∀w,S w→AtB w T g l):YieldsIf Tryz.prog ops S op (aggM l) a:=by
 obtain⟨d,e,hu⟩:=R.und
 exact yieldsIf_load_mid hw T x ho g 0 hx (boolsV l) _ (fun w hw=>(hS w hw).range) hu rfl (by rw[R.info];simp[boolsV,hs])
theorem a9q{T:TypeId}{n:Nat}(R:RowTy T n){w:World}{ops:Array Oper}{o:Oper}{a:Act}{K:Act→World→Prop}{Q:Exit→Act→World→Prop}{F:Prop}(hw:Region.wanted o (yielded ops a.tmps)=true)(x y:Operand)(ho:o.op = .store T x y)
  (g:Nat) (hx:a.eval x = .pointer (some ⟨g,0,none⟩)) (s old:List Bool) (hy:a.eval y=aggM s) (hs:s.length=n) (hold:old.length=n) (hg:AtB w T g old)
  (h:K (a.put o.dst undef) (w.setRow g (boolsV s).toArray)):if Region.wanted o (yielded ops a.tmps)=true then Oper.wp Tryz.prog o a w K Q else F:=by
 rw[if_pos hw]
 have hl:(boolsV s).toArray.size=n:=by simp[boolsV,hs]
 exact wp_store_row T x y ho g (boolsV s).toArray hx hy T _ hg (by rw[R.info,hl]) (by simp[boolsV,hs,hold]) (by simp only[List.all_toArray];exact List.all_eq_true.2 (a9b s)) h
theorem AtB.setRow{w:World}{T:TypeId}{g:Nat}{l:List Bool}(h:AtB w T g l)(s:List Bool):AtB (w.setRow g (boolsV s).toArray) T g s:=setRow_heap w g _ _ _ _ h
theorem AtB.rowOther{w:World}{T:TypeId}{g k:Nat}{l:List Bool}(h:AtB w T k l)(hk:k≠g)(cs:Array Value):AtB (w.setRow g cs) T k l:=(setRow_other w g k cs hk).trans h
structure PAt (w:World) (ss:List (List Int)) (a b:List Bool) (wr:World):Prop where
 r0:AtB wr 233 w.heap.size a
 r1:AtB wr 235 (w.heap.size+1) b
 la:a.length=24
 lb:b.length=16
 re:AtB wr 233 (w.heap.size+2) (eU ss 24)
 ri:AtB wr 235 (w.heap.size+3) (iU ss 24)
 below:Below w.heap.size w wr
theorem PAt.drew{w:World}{ss:List (List Int)}{a b:List Bool}{wr:World}(h:PAt w ss a b wr):PAt w ss a b wr.drew:=⟨h.r0,h.r1,h.la,h.lb,h.re,h.ri,h.below.drew⟩
theorem NAt.p{w:World}{ss:List (List Int)}{wr:World}(h:NAt w ss 24 wr):PAt w ss (List.replicate 24 false) (List.replicate 16 false) wr:=⟨h.r0,h.r1,rfl,rfl,h.re,h.ri,h.below⟩
theorem a6d{B g:Nat}{a w:World}(h:Below B a w)(cs:Array Value)(hg:B≤g):Below B a (w.setRow g cs) :=
 h.trans ⟨rfl,rfl,rfl,by simp[World.setRow],fun k hk=>setRow_other w g k _ (by omega)⟩
theorem PAt.putE{w:World}{ss:List (List Int)}{a b:List Bool}{wr:World}(h:PAt w ss a b wr):PAt w ss (eU ss 24) b (wr.setRow w.heap.size (boolsV (eU ss 24)).toArray) :=
 ⟨h.r0.setRow _,h.r1.rowOther (by omega) _,a7b _ _,h.lb,h.re.rowOther (by omega) _,h.ri.rowOther (by omega) _,a6d h.below _ (Nat.le_refl _)⟩
theorem PAt.putI{w:World}{ss:List (List Int)}{a b:List Bool}{wr:World}(h:PAt w ss a b wr):PAt w ss a (iU ss 24) (wr.setRow (w.heap.size+1) (boolsV (iU ss 24)).toArray) :=
 ⟨h.r0.rowOther (by omega) _,h.r1.setRow _,h.la,a7a _ _,h.re.rowOther (by omega) _,h.ri.rowOther (by omega) _,a6d h.below _ (Nat.le_succ _)⟩
theorem ret_b2{T U:TypeId}{n m:Nat}(R:RowTy T n)(R2:RowTy U m){fn:Func}{p q:Tmp}{Rr:Ending→World→Prop}{a:Act}{w:World}(h:fn.results = #[.cell p T,.cell q U])(g k:Nat)(s l:List Bool)(hp:a.tmps.getD p undef = .pointer (some ⟨g,0,none⟩))(hq:a.tmps.getD q undef = .pointer (some ⟨k,0,none⟩))(hs:s.length=n)(hl:l.length=m)(hg:AtB w T g s)(hk:AtB w U k l)
  (hd:a.defers=[]) (hR:Rr (.returned (.tuple #[aggM s,aggM l])) w):bodyPost Tryz.prog fn Rr .ret a w:=by
 obtain⟨d,e,hu⟩:=R.und
 obtain⟨d2,e2,hu2⟩:=R2.und
 refine bodyPost_ret (v := .tuple #[aggM s,aggM l]) ?_ hd hR
 have hp':a.tmps[p]?.getD undef = .pointer (some ⟨g,0,none⟩):=by simpa using hp
 have hq':a.tmps[q]?.getD undef = .pointer (some ⟨k,0,none⟩):=by simpa using hq
 have h1:=run_loadVar_row (P:=Tryz.prog) w g _ T _ _ _ hg hu rfl (by rw[R.info];simp[boolsV,hs])
 have h2:=run_loadVar_row (P:=Tryz.prog) w k _ U _ _ _ hk hu2 rfl (by rw[R2.info];simp[boolsV,hl])
 simp[results,h,hp',hq',asAddr,h1,h2]
theorem ret_b1{T:TypeId}{n:Nat}(R:RowTy T n){fn:Func}{p:Tmp}{Rr:Ending→World→Prop}{a:Act}{w:World}(h:fn.results = #[.cell p T])(g:Nat)(s:List Bool)(hp:a.tmps.getD p undef = .pointer (some ⟨g,0,none⟩))(hs:s.length=n)(hg:AtB w T g s)
  (hd:a.defers=[]) (hR:Rr (.returned (aggM s)) w):bodyPost Tryz.prog fn Rr .ret a w:=by
 obtain⟨d,e,hu⟩:=R.und
 exact bodyPost_ret (results_cell_row h a.tmps w g _ _ _ _ hp hg hu rfl (by rw[R.info];simp[boolsV,hs])) hd hR
set_option maxRecDepth 100000 in
set_option maxHeartbeats 3200000 in
theorem b1v(w:World)(d:Value)(ss:List (List Int))(hd:Dk w d ss):Calls Tryz.prog 166 #[d] w (Rt w (.tuple #[aggM (eU ss 24),aggM (iU ss 24)])):=by
 have HE:=ι fun(k:Nat) (hk:k<24) w' (h:Below w.heap.size w w')=>a8f w' d ss (k:Int) (hd.later h) (a0f (by omega))
 have HTG:=ι fun(k:Nat) hu=>c8t (ss:=ss) (k:=(k:Int)) hu
 have HEL:=ι (a7b ss)
 have HIL:=ι (a7a ss)
 clear hd
 have A0:=atE24 w
 obtain⟨W1,hW1⟩:∃W1,w.alloc (.cells #[.bool false,.bool false,.bool false,.bool false,.bool false,.bool false,.bool false,.bool false,.bool false,.bool false,.bool false,.bool false,.bool false,.bool false,.bool false,.bool false,.bool false,.bool false,.bool false,.bool false,.bool false,.bool false,.bool false,.bool false] 233)=W1:=⟨_,rfl⟩
 have hz1:W1.heap.size=w.heap.size+1:=by rw[← hW1];simp
 have A1:=atI16 W1
 obtain⟨W2,hW2⟩:∃W2,W1.alloc (.cells #[.bool false,.bool false,.bool false,.bool false,.bool false,.bool false,.bool false,.bool false,.bool false,.bool false,.bool false,.bool false,.bool false,.bool false,.bool false,.bool false] 235)=W2:=⟨_,rfl⟩
 have hz2:W2.heap.size=w.heap.size+2:=by rw[← hW2];simp[hz1]
 have A2:=atE24 W2
 obtain⟨W3,hW3⟩:∃W3,W2.alloc (.cells #[.bool false,.bool false,.bool false,.bool false,.bool false,.bool false,.bool false,.bool false,.bool false,.bool false,.bool false,.bool false,.bool false,.bool false,.bool false,.bool false,.bool false,.bool false,.bool false,.bool false,.bool false,.bool false,.bool false,.bool false] 233)=W3:=⟨_,rfl⟩
 have hz3:W3.heap.size=w.heap.size+3:=by rw[← hW3];simp[hz2]
 go_enter Tryz.func166,Tryz.ntmps166
 go_upto_region 2 with fail
 rw[hW1] at A0
 rw[hW2] at A1
 rw[hW3] at A2
 have B3:Hid (Below w.heap.size w W3):=ι (by
  have b1:Below w.heap.size w W1:=by rw[← hW1];exact a0a (Below.refl _ _) _
  have b2:Below w.heap.size w W2:=by rw[← hW2];exact a0a b1 _
  rw[← hW3];exact a0a b2 _)
 have R0:Hid (AtB W3 233 w.heap.size (List.replicate 24 false)):=ι (by
  rw[← hW3];exact(by rw[← hW2];exact A0.later (a0a (Below.refl _ _) _):AtB W2 _ _ _).later (a0a (Below.refl _ _) _))
 have R1:Hid (AtB W3 235 (w.heap.size+1) (List.replicate 16 false)):=ι (by
  rw[← hW3,← hz1];exact A1.later (a0a (Below.refl _ _) _))
 have R2:Hid (AtB W3 233 (w.heap.size+2) (List.replicate 24 false)):=ι (by rw[← hz2];exact A2)
 have Z3:=ι hz3
 clear hW1 hW2 hW3 A0 A1 A2
 have A3:=atI16r W3
 have hb3:=a0a (Below.refl W3.heap.size W3) (.cells #[.bool true,.bool false,.bool false,.bool false,.bool false,.bool false,.bool false,.bool false,.bool false,.bool false,.bool false,.bool false,.bool false,.bool false,.bool false,.bool false] 235)
 go_upto_region 3 with fail
 obtain⟨W4,hW4⟩:∃W4,W3.alloc (.cells #[.bool true,.bool false,.bool false,.bool false,.bool false,.bool false,.bool false,.bool false,.bool false,.bool false,.bool false,.bool false,.bool false,.bool false,.bool false,.bool false] 235)=W4:=⟨_,rfl⟩
 rw[hW4] at A3 hb3 ⊢
 have N0:Hid (NAt w ss 0 W4):=ι ⟨R0.out.later hb3,R1.out.later hb3,R2.out.later hb3,by rw[← Z3.out];exact A3,a0b B3.out hb3⟩
 clear hW4 A3 hb3 R0 R1 R2 B3 hz1 hz2 hz3
 go_wp2_with fail
 go_loopw [6,7,9] (fun _ _ kv wr=>∃k:Nat,k≤24∧kv = .int .i64 (k:Int)∧Hid (NAt w ss k wr)) (fun _ _ kv _=>24-(intOf kv).toNat)
 case atStart=>exact⟨0,by omega,rfl,N0⟩
 case round =>
  obtain⟨k,hk,rfl,HN⟩:=hrel
  clear N0
  by_cases hlt:k<24
  ·have hlti:(k:Int)<24:=by omega
   have HEk:=ι (HE.out k hlt wr HN.out.below)
   have HTk:=ι (HTG.out k)
   have HYk:=ι fun a (h:NAt w ss k a) hu z hz=>h.setE hu z hz
   have HSk:=ι fun a (h:NAt w ss k a) hu=>h.skip hu
   generalize entAt ss (k:Int)=x at HEk HTk HYk HSk
   obtain⟨u,pa,nm,tg⟩:=x
   cases u with
   | false =>
    go_wp2_with (go_at_call 135;refine HEk.out.mono ?_;rintro e w1 ⟨rfl,hb⟩;have N1:=ι (HN.out.later hb);clear hb)
    go_roundw
    case rel=>exact⟨k+1,by omega,by go_num,ι (HSk.out _ (N1.out.later (a0a (Below.refl _ _) _)) (by first|trivial|rfl))⟩
    case measure=>simp[intOf];omega
   | true =>
    obtain⟨h1,h2⟩:=HTk.out rfl
    simp only at h1 h2
    obtain⟨z,hz⟩:=Int.eq_ofNat_of_zero_le (show 0≤tg by omega)
    subst hz
    have hz16:z<16:=by omega
    clear h1
    go_upto_region 8 with(go_at_call 135;refine HEk.out.mono ?_;rintro e w1 ⟨rfl,hb⟩;have N1:=ι (HN.out.later hb);clear hb)
    have HG:Hid (w.heap.size+3<w1.heap.size):=ι N1.out.ri.lt
    have c3:(w1.alloc (.cells #[.bool true,.int .i64 pa,.string nm,.int .i64 (z:Int)] 170)).cell? ⟨w1.heap.size,3,none⟩=some (.int .i64 (z:Int)):=by rw[World.cell?_alloc_new];rfl
    have N5:=ι (N1.out.later (a0a (Below.refl _ _) (.cells #[.bool true,.int .i64 pa,.string nm,.int .i64 (z:Int)] 170)))
    generalize w1.alloc (.cells #[.bool true,.int .i64 pa,.string nm,.int .i64 (z:Int)] 170)=w5 at c3 N5 ⊢
    generalize w1.heap.size=g at HG c3 ⊢
    have cE:=N5.out.re.cell (k:=k) (by rw[HEL.out];exact hlt)
    have fE:=N5.out.re.frozen k
    have c3':(w5.setCell ⟨w.heap.size+2,k,none⟩ (.bool true)).cell? ⟨g,3,none⟩=some (.int .i64 (z:Int)):=by
     rw[World.cell?_setCell_other _ _ _ _ (by intro e;simp only[Addr.mk.injEq] at e;have:=HG.out;omega)];exact c3
    have hI:=N5.out.ri.other (g:=w.heap.size+2) (j:=k) (by omega) (.bool true)
    have cI:=hI.cell (k:=z) (by rw[HIL.out];exact hz16)
    have fI:=hI.frozen z
    clear hI
    go_wp2_with fail
    go_roundw
    case rel=>exact⟨k+1,by omega,by go_num,ι (HYk.out _ N5.out (by first|trivial|rfl) z rfl)⟩
    case measure=>simp[intOf];omega
  ·obtain rfl:k=24:=by omega
   have h0:=HN.out.p.drew
   go_wp2_with fail
   refine wp_region_held_drew (S:=fun W=>∃a b,PAt w ss a b W) (by kernel_rfl) ⟨_,_,h0⟩ (fun hH0 => ?_)
   refine tkv 0 rfl (ld_b rowE (by rfl) _ rfl (w.heap.size+2) (by rfl) (eU ss 24) (HEL.out 24) (fun w' ⟨_,_,h⟩=>h.re)) ?_
   refine tkv 1 rfl (ld_b rowI (by rfl) _ rfl (w.heap.size+3) (by rfl) (iU ss 24) (HIL.out 24) (fun w' ⟨_,_,h⟩=>h.ri)) ?_
   refine rd 2 rfl (fun K hK => ?_)
   refine a9q rowE (by rfl) _ _ (by rfl) w.heap.size (by rfl) (eU ss 24) _ (by rfl) (HEL.out 24) h0.la h0.r0 ?_
   have h1:=h0.putE
   refine hK.out _ _ ⟨_,_,h1⟩ (fun hHeld => ?_)
   clear hK K
   try simp only[Act.put,List.setIfInBounds_toArray,List.set_cons_zero,List.set_cons_succ]
   refine rd 3 rfl (fun K hK => ?_)
   refine a9q rowI (by rfl) _ _ (by rfl) (w.heap.size+1) (by rfl) (iU ss 24) _ (by rfl) (HIL.out 24) h1.lb h1.r1 ?_
   have h2:=h1.putI
   refine hK.out _ _ ⟨_,_,h2⟩ (fun hHeld => ?_)
   clear hK K
   try simp only[Act.put,List.setIfInBounds_toArray,List.set_cons_zero,List.set_cons_succ]
   refine wpAnyH_done (by kernel_rfl) ?_ _
   go_wp2_with fail
   exact ret_b2 rowE rowI rfl w.heap.size (w.heap.size+1) (eU ss 24) (iU ss 24) rfl rfl (HEL.out 24) (HIL.out 24) h2.r0 h2.r1 rfl ⟨rfl,h2.below⟩
end al
namespace al
set_option maxRecDepth 100000
open Go.ChangeShapes Go.WideShapes Go.ChangeAt Go.RowKit
open rows
open sec
open ly
open lk
theorem atB25(w:World):AtB (w.alloc (.cells #[.bool false,.bool false,.bool false,.bool false,.bool false,.bool false,.bool false,.bool false,.bool false,.bool false,.bool false,.bool false,.bool false,.bool false,.bool false,.bool false,.bool false,.bool false,.bool false,.bool false,.bool false,.bool false,.bool false,.bool false,.bool false] 275)) 275 w.heap.size marks0:=by
 rw[lit_m];exact b0r w _ _
theorem indexM(cs:Array Value)(k:Nat)(v:Value)(hk:k<16)(hv:cs[k]? = some v)(w:World):(Instr.index 235 (.agg cs) (.int .i64 (k:Int))).run Tryz.prog w = .ok v w:=by
 have h1:(0:Int)≤k:=by omega
 have h2:(k:Int)<16:=by omega
 simp[Instr.index,run_underlying Tryz.underlying235,asIntOf,part,h1,hv,go_sem]
 omega
theorem fieldB(x:Ino)(hx:x.b.length=4)(w:World):(Instr.field 75 (aggI x) 2).run Tryz.prog w = .ok (.agg (i64s x.b).toArray) w:=by
 obtain⟨kd,sz,bl⟩:=x
 rcases bl with _|⟨a,_|⟨b,_|⟨c,_|⟨d,_|⟨e,r⟩⟩⟩⟩⟩<;>simp at hx
 kernel_rfl
structure FAt (w:World) (l:List Bool) (wr:World):Prop where
 r0:AtB wr 275 (w.heap.size+1) marks0
 rb:AtB wr 275 (w.heap.size+2) l
 below:Below w.heap.size w wr
theorem FAt.later{w:World}{l:List Bool}{a b:World}(h:FAt w l a)(k:Below a.heap.size a b):FAt w l b:=⟨h.r0.later k,h.rb.later k,a0b h.below k⟩
theorem FAt.set{w:World}{l:List Bool}{a:World}(h:FAt w l a)(k:Nat):FAt w (l.set k true) (a.setCell ⟨w.heap.size+2,k,none⟩ (.bool true)) :=
 ⟨h.r0.other (by omega) _,h.rb.set k true,h.below.setCell (p:=⟨w.heap.size+2,k,none⟩) (by simp) _⟩
theorem bU_next{ss:List (List Int)}{n:Nat}{b:Bool}(h:takenB ss (n:Int)=b):bU ss (n+1)=if b then setAll (bU ss n) (inoAt ss (n:Int)).b else bU ss n:=by rw[bU,h]
set_option maxRecDepth 100000 in
set_option maxHeartbeats 3200000 in
theorem c4m(w:World)(d:Value)(ss:List (List Int))(hd:Dk w d ss):Calls Tryz.prog 205 #[d,aggM (iU ss 24)] w (Rt w (aggM (bU ss 16))):=by
 have hss:=hd.secs.1
 have HI:=ι fun(k:Nat) (hk:k<16) w' (h:Below w.heap.size w w')=>a4a w' d ss (k:Int) (hd.later h) (a0f (by omega))
 have HBL:=ι (b1q ss)
 have HIL:=ι (a7a ss 24)
 have HF:=ι fun k=>(c1x hss k).b
 have HF4:=ι fun k=>a0q hss k
 have HT:=ι fun n hn=>b4w ss n hn
 clear hd hss
 generalize hmo:iU ss 24=mo at *
 clear hmo
 have A0:=b0r w 235 mo
 obtain⟨W1,hW1⟩:∃W1,w.alloc (.cells (boolsV mo).toArray 235)=W1:=⟨_,rfl⟩
 have hz1:W1.heap.size=w.heap.size+1:=by rw[← hW1];simp
 have A1:=atB25 W1
 obtain⟨W2,hW2⟩:∃W2,W1.alloc (.cells #[.bool false,.bool false,.bool false,.bool false,.bool false,.bool false,.bool false,.bool false,.bool false,.bool false,.bool false,.bool false,.bool false,.bool false,.bool false,.bool false,.bool false,.bool false,.bool false,.bool false,.bool false,.bool false,.bool false,.bool false,.bool false] 275)=W2:=⟨_,rfl⟩
 have hz2:W2.heap.size=w.heap.size+2:=by rw[← hW2];simp[hz1]
 have A2:=atB25 W2
 obtain⟨W3,hW3⟩:∃W3,W2.alloc (.cells #[.bool false,.bool false,.bool false,.bool false,.bool false,.bool false,.bool false,.bool false,.bool false,.bool false,.bool false,.bool false,.bool false,.bool false,.bool false,.bool false,.bool false,.bool false,.bool false,.bool false,.bool false,.bool false,.bool false,.bool false,.bool false] 275)=W3:=⟨_,rfl⟩
 have hz3:W3.heap.size=w.heap.size+3:=by rw[← hW3];simp[hz2]
 have b1:Below w.heap.size w W1:=by rw[← hW1];exact a0a (Below.refl _ _) _
 have b2:Below W1.heap.size W1 W2:=by rw[← hW2];exact a0a (Below.refl _ _) _
 have b3:Below W2.heap.size W2 W3:=by rw[← hW3];exact a0a (Below.refl _ _) _
 have M0:Hid (AtB W3 235 w.heap.size mo):=ι (by rw[hW1] at A0;exact(A0.later b2).later b3)
 have F0:Hid (FAt w (bU ss 0) W3):=ι ⟨by rw[hW2,hz1] at A1;exact A1.later b3,by rw[hW3,hz2] at A2;exact A2,a0b (a0b b1 b2) b3⟩
 clear b1 b2 b3 A0 A1 A2
 go_enter Tryz.func205,Tryz.ntmps205
 go_upto_region 2 with fail
 clear hW1 hW2 hW3 hz1 hz2 hz3
 go_wp2_with (refine c9b rowI rfl (.tmp 3) rfl w.heap.size rfl mo HIL.out M0.out ?_)
 go_loopw [6,7,9,11] (fun _ _ _ kv wr=>∃k:Nat,k≤16∧kv = .int .i64 (k:Int)∧Hid (FAt w (bU ss k) wr)) (fun _ _ _ kv _=>16-(intOf kv).toNat)
 case atStart=>exact⟨0,by omega,rfl,F0⟩
 case round =>
  obtain⟨k,hk,rfl,HN⟩:=hrel
  clear F0 M0
  by_cases hlt:k<16
  ·have hlti:(k:Int)<16:=by omega
   have HIk:=ι (HI.out k hlt wr HN.out.below)
   have hT:=HT.out k hlt
   have hix:(boolsV mo).toArray[k]? = some (.bool (takenB ss (k:Int))):=by rw[← hT];simp[boolsV,List.getD,HIL.out,hlt]
   have HNX:=ι fun b hb=>bU_next (ss:=ss) (n:=k) (b:=b) hb
   clear hT
   have hrun:=fun v W (h:(boolsV mo).toArray[k]? = some v)=>indexM _ k v hlt h W
   cases ht:takenB ss (k:Int) with
   | false =>
    rw[ht] at hix
    replace hrun:=fun W=>hrun _ W hix
    clear hix
    have HS:=ι (HNX.out false ht)
    clear HNX ht
    go_wp2_with fail
    go_roundw
    case rel=>exact⟨k+1,by omega,by go_num,by rw[HS.out];exact HN⟩
    case measure=>simp[intOf];omega
   | true =>
    rw[ht] at hix
    replace hrun:=fun W=>hrun _ W hix
    clear hix
    have HS:=ι (HNX.out true ht)
    clear HNX ht
    have HFk:=ι (HF.out (k:Int))
    have HB0:=ι (HBL.out k)
    have HFD:=ι (fieldB (inoAt ss (k:Int)) (HF4.out (k:Int)))
    have HL4:Hid ((inoAt ss (k:Int)).b.length=4):=ι (HF4.out (k:Int))
    generalize inoAt ss (k:Int)=x at HIk HFk HL4 HFD HS
    have hfd:=fun W=>HFD.out W
    go_wp2_with (go_at_call 83;refine HIk.out.mono ?_;rintro e w1 ⟨rfl,hb⟩;have N1:=ι (HN.out.later hb);clear hb)
    clear hrun
    have HXB:=ι fun j hj h4 W=>index4 x.b j hj h4 W
    go_loopw [9,21] (fun _ jv wr=>∃j:Nat,j≤4∧jv = .int .i64 (j:Int)∧Hid (FAt w (setAll (bU ss k) (x.b.take j)) wr)) (fun _ jv _=>4-(intOf jv).toNat)
    case atStart=>exact⟨0,by omega,rfl,N1⟩
    case round =>
     obtain⟨j,hj,rfl,HNj⟩:=hrel
     by_cases hltj:j<4
     ·have hltji:(j:Int)<4:=by omega
      have hjl:j<x.b.length:=by rw[HL4.out];exact hltj
      have hxb:=HXB.out j hjl hltj
      have HZ:=ι (c0j (l:=bU ss k) hjl)
      have hz:=HFk.out (x.b.getD j 0) (by rw[show x.b.getD j 0=x.b[j] by simp[List.getD,hjl]];exact List.getElem_mem hjl)
      obtain⟨m,hm⟩:=Int.eq_ofNat_of_zero_le hz.1
      rw[hm] at hxb hz HZ
      have hm24:m<25:=by omega
      have hcm:=HNj.out.rb.cell (k:=m) (by rw[b3t,HB0.out];exact hm24)
      have hfm:=HNj.out.rb.frozen m
      clear hz hm
      go_wp2_with fail
      go_roundw
      case rel=>exact⟨j+1,by omega,by go_num,ι (by rw[HZ.out];exact HNj.out.set m)⟩
      case measure=>simp[intOf];omega
     ·obtain rfl:j=4:=by omega
      go_wp2_with fail
      go_roundw
      case rel=>exact⟨k+1,by omega,by go_num,ι (by rw[HS.out];have:=HNj.out;rw[List.take_of_length_le (by rw[HL4.out];exact Nat.le_refl _)] at this;exact this)⟩
      case measure=>simp[intOf];omega
  ·obtain rfl:k=16:=by omega
   have HB16:=ι (HBL.out 16)
   have HR0:=ι HN.out.r0
   have HRB:=ι HN.out.rb
   have HBB:=ι HN.out.below
   go_wp2_with (first|(refine c9b rowB rfl (.tmp 5) rfl (w.heap.size+2) rfl (bU ss 16) HB16.out HRB.out ?_)|(refine c6r rowB rfl (.tmp 4) (.tmp 28) rfl rfl (w.heap.size+1) (bU ss 16) marks0 rfl rfl HB16.out (by decide) HR0.out ?_;intro w4 hA hB;have A4:=ι hA;have B4:=ι (HBB.out.trans (hB.mono (Nat.le_succ _)));clear hA hB))
   exact ret_b1 rowB rfl (w.heap.size+1) (bU ss 16) rfl HB16.out A4.out rfl ⟨rfl,B4.out⟩
end al
namespace al
set_option maxRecDepth 100000
open Go.ChangeShapes Go.WideShapes Go.ChangeAt Go.RowKit
open rows
open sec
open dsk (wf64)
open ly
open lk
theorem b2e{B:Nat}{a w:World}{gf:Nat}{l:List Bool}{f:Nat}(h:Below B a w)(hg:B≤gf):Below B a (nextW w gf l f):=by
 unfold nextW
 split
 ·exact h.setCell (p:=⟨gf,0,none⟩) hg _
 ·exact h
theorem b4p{w:World}{T:TypeId}{g m:Nat}{l:List Bool}(f:Nat)(hm:l.length=m)(h:AtB w T g l) :
  UnAt ((w.alloc (.cells #[.slice (some ⟨g,0,none⟩) m m] 240)).alloc (.cells #[.int .i64 (f:Int)] 3)) T (w.heap.size+1) w.heap.size g l f where
 first:=by
  have:=Go.Boxed.new (w.alloc (.cells #[.slice (some ⟨g,0,none⟩) m m] 240)) 3 (.int .i64 (f:Int))
  rw[World.size_alloc] at this
  exact this
 marks:=by
  rw[hm]
  exact(Go.Boxed.new w 240 (.slice (some ⟨g,0,none⟩) m m)).alloc _
 row:=(h.later (a0a (Below.refl _ _) _)).later (a0a (Below.refl _ _) _)
 f1:=by omega
 f2:=by have:=h.lt;omega
theorem b6i(w:World)(T:TypeId)(gf gm g:Nat)(l:List Bool)(f:Nat)(h:UnAt w T gf gm g l f)(hl:l.length≤25)(hf:f≤l.length)(o:Option Nat)(ho:nextF l f=o) :
  Calls Tryz.prog 203 #[.pointer (some ⟨gf,0,none⟩),.pointer (some ⟨gm,0,none⟩)] w fun e w'=>e = .returned (.tuple #[.int .i64 ((o.getD 0:Nat):Int),.bool o.isSome])∧w'=nextW w gf l f:=by
 subst ho
 exact next_any w T gf gm g l f h hl hf
theorem c2n{T:TypeId}{n:Nat}(R:RowTy T n){ops:Array Oper}{rest:List Oper}{o:Oper}{a:Act}{w:World}{Q:Exit→Act→World→Prop}(hgd:o.guard=none)(x y:Operand)(ho:o.op = .store T x y)(hd:o.dst=none)
  (g:Nat) (s old:List Bool) (hx:a.eval x = .pointer (some ⟨g,0,none⟩)) (hy:a.eval y=aggM s) (hs:s.length=n) (hold:old.length=n) (hg:AtB w T g old)
  (h:∀w',AtB w' T g s→Below g w w'→(∀U k l,k≠g→AtB w U k l→AtB w' U k l)→wpList Tryz.prog ops Q rest a w'):wpList Tryz.prog ops Q (o::rest) a w:=by
 have hl:(boolsV s).toArray.size=n:=by simp[boolsV,hs]
 refine wpList_store_row hgd T x y ho g (boolsV s).toArray hx hy T _ hg (by rw[R.info,hl]) (by simp[boolsV,hs,hold]) (by simp only[List.all_toArray];exact List.all_eq_true.2 (a9b s)) ?_
 rw[hd]
 exact h _ (setRow_heap w g _ _ _ _ hg) (a6d (Below.refl g w) _ (Nat.le_refl _)) (fun U k l hk hA=>hA.rowOther hk _)
theorem d5g(w:World):AtB ((w.alloc (.cells #[.bool false,.bool false,.bool false,.bool false,.bool false,.bool false,.bool false,.bool false,.bool false,.bool false,.bool false,.bool false,.bool false,.bool false,.bool false,.bool false,.bool false,.bool false,.bool false,.bool false,.bool false,.bool false,.bool false,.bool false] 233)).alloc (.cells #[.bool false,.bool false,.bool false,.bool false,.bool false,.bool false,.bool false,.bool false,.bool false,.bool false,.bool false,.bool false,.bool false,.bool false,.bool false,.bool false] 235)) 233 w.heap.size (List.replicate 24 false)∧AtB ((w.alloc (.cells #[.bool false,.bool false,.bool false,.bool false,.bool false,.bool false,.bool false,.bool false,.bool false,.bool false,.bool false,.bool false,.bool false,.bool false,.bool false,.bool false,.bool false,.bool false,.bool false,.bool false,.bool false,.bool false,.bool false,.bool false] 233)).alloc (.cells #[.bool false,.bool false,.bool false,.bool false,.bool false,.bool false,.bool false,.bool false,.bool false,.bool false,.bool false,.bool false,.bool false,.bool false,.bool false,.bool false] 235)) 235 (w.heap.size+1) (List.replicate 16 false):=by
 refine⟨(atE24 w).later (a0a (Below.refl _ _) _),?_⟩
 have:=atI16 (w.alloc (.cells #[.bool false,.bool false,.bool false,.bool false,.bool false,.bool false,.bool false,.bool false,.bool false,.bool false,.bool false,.bool false,.bool false,.bool false,.bool false,.bool false,.bool false,.bool false,.bool false,.bool false,.bool false,.bool false,.bool false,.bool false] 233))
 rwa [World.size_alloc] at this
structure Two (w0:World) (g:Nat) (le li:List Bool) (w:World):Prop where
 re:AtB w 233 g le
 ri:AtB w 235 (g+1) li
 below:Below w0.heap.size w0 w
 ge:w0.heap.size≤g
theorem c1a{w0 w:World}(hb:Below w0.heap.size w0 w):Two w0 w.heap.size (List.replicate 24 false) (List.replicate 16 false) ((w.alloc (.cells #[.bool false,.bool false,.bool false,.bool false,.bool false,.bool false,.bool false,.bool false,.bool false,.bool false,.bool false,.bool false,.bool false,.bool false,.bool false,.bool false,.bool false,.bool false,.bool false,.bool false,.bool false,.bool false,.bool false,.bool false] 233)).alloc (.cells #[.bool false,.bool false,.bool false,.bool false,.bool false,.bool false,.bool false,.bool false,.bool false,.bool false,.bool false,.bool false,.bool false,.bool false,.bool false,.bool false] 235)) :=
 ⟨(d5g w).1,(d5g w).2,a0a (a0a hb _) _,hb.size⟩
theorem c0t{ops:Array Oper}{rest:List Oper}{o:Oper}{a:Act}{w0 w:World}{Q:Exit→Act→World→Prop}(hgd:o.guard=none)(x y:Operand)(ho:o.op = .store 233 x y)(hd:o.dst=none)
  (g:Nat) (s old li:List Bool) (hx:a.eval x = .pointer (some ⟨g,0,none⟩)) (hy:a.eval y=aggM s) (hs:s.length=24) (hold:old.length=24) (hg:Two w0 g old li w)
  (h:∀w',Two w0 g s li w'→wpList Tryz.prog ops Q rest a w'):wpList Tryz.prog ops Q (o::rest) a w :=
 c2n rowE hgd x y ho hd g s old hx hy hs hold hg.re fun w' hA hB hO=>h w' ⟨hA,hO _ _ _ (by omega) hg.ri,hg.below.trans (hB.mono hg.ge),hg.ge⟩
theorem c0z{ops:Array Oper}{rest:List Oper}{o:Oper}{a:Act}{w0 w:World}{Q:Exit→Act→World→Prop}(hgd:o.guard=none)(x y:Operand)(ho:o.op = .store 235 x y)(hd:o.dst=none)
  (g:Nat) (s old le:List Bool) (hx:a.eval x = .pointer (some ⟨g+1,0,none⟩)) (hy:a.eval y=aggM s) (hs:s.length=16) (hold:old.length=16) (hg:Two w0 g le old w)
  (h:∀w',Two w0 g le s w'→wpList Tryz.prog ops Q rest a w'):wpList Tryz.prog ops Q (o::rest) a w :=
 c2n rowI hgd x y ho hd (g+1) s old hx hy hs hold hg.ri fun w' hA hB hO=>h w' ⟨hO _ _ _ (by omega) hg.re,hA,hg.below.trans (hB.mono (by have:=hg.ge;omega)),hg.ge⟩
set_option maxRecDepth 100000 in
set_option maxHeartbeats 3200000 in
theorem c5m(w:World)(d:Value)(ss:List (List Int))(hd:Dk w d ss):Calls Tryz.prog 118 #[d] w (Rt w (optV (frI ss))):=by
 have HNm:=ι (b1v w d ss hd)
 have HEL:=ι (a7b ss 24)
 have HIL:=ι (a7a ss 24)
 have HNX:=ι (d2b ss)
 clear hd
 generalize eU ss 24=le at *
 generalize iU ss 24=li at *
 generalize frI ss=o at *
 go_enter Tryz.func118,Tryz.ntmps118
 go_wp2_with (first
  | (go_at_call 166;refine HNm.out.mono ?_;rintro e w1 ⟨rfl,hb⟩;have T1:=ι (c1a hb);clear hb)
  | (refine c0t rfl (.tmp 4) (.tmp 9) rfl rfl w1.heap.size le (List.replicate 24 false) _ rfl rfl HEL.out rfl T1.out ?_;intro w2 hT;have T2:=ι hT;clear hT)
  | (refine c0z rfl (.tmp 5) (.tmp 10) rfl rfl w1.heap.size li (List.replicate 16 false) _ rfl rfl HIL.out rfl T2.out ?_;intro w3 hT;have T3:=ι hT;clear hT)
  | (go_at_call 167;refine(b4t _ _ _ _ _).mono ?_;rintro e w4 ⟨rfl,rfl⟩;have U4:=ι (b4p 0 HIL.out T3.out.ri);have B4:=ι (a0a (a0a T3.out.below (.cells #[.slice (some ⟨w1.heap.size+1,0,none⟩) 16 16] 240)) (.cells #[.int .i64 0] 3)))
  | (go_at_call 203;refine(b6i _ _ _ _ _ _ 0 U4.out (by rw[HIL.out];omega) (Nat.zero_le _) _ HNX.out).mono ?_;rintro e w5 ⟨rfl,rfl⟩;have B5:=ι (b2e (gf:=w3.heap.size+1) (l:=li) (f:=0) B4.out (by have:=T3.out.below.size;omega))))
 go_ret2
 exact⟨rfl,B5.out⟩
set_option maxRecDepth 100000 in
set_option maxHeartbeats 3200000 in
theorem b7h(w:World)(d:Value)(ss:List (List Int))(hd:Dk w d ss):Calls Tryz.prog 119 #[d] w (Rt w (optV (frE ss))):=by
 have HNm:=ι (b1v w d ss hd)
 have HEL:=ι (a7b ss 24)
 have HIL:=ι (a7a ss 24)
 have HNX:=ι (d1i ss)
 clear hd
 generalize eU ss 24=le at *
 generalize iU ss 24=li at *
 generalize frE ss=o at *
 go_enter Tryz.func119,Tryz.ntmps119
 go_wp2_with (first
  | (go_at_call 166;refine HNm.out.mono ?_;rintro e w1 ⟨rfl,hb⟩;have T1:=ι (c1a hb);clear hb)
  | (refine c0t rfl (.tmp 4) (.tmp 9) rfl rfl w1.heap.size le (List.replicate 24 false) _ rfl rfl HEL.out rfl T1.out ?_;intro w2 hT;have T2:=ι hT;clear hT)
  | (refine c0z rfl (.tmp 5) (.tmp 10) rfl rfl w1.heap.size li (List.replicate 16 false) _ rfl rfl HIL.out rfl T2.out ?_;intro w3 hT;have T3:=ι hT;clear hT)
  | (go_at_call 167;refine(b4t _ _ _ _ _).mono ?_;rintro e w4 ⟨rfl,rfl⟩;have U4:=ι (b4p 0 HEL.out T3.out.re);have B4:=ι (a0a (a0a T3.out.below (.cells #[.slice (some ⟨w1.heap.size,0,none⟩) 24 24] 240)) (.cells #[.int .i64 0] 3)))
  | (go_at_call 203;refine(b6i _ _ _ _ _ _ 0 U4.out (by rw[HEL.out];omega) (Nat.zero_le _) _ HNX.out).mono ?_;rintro e w5 ⟨rfl,rfl⟩;have B5:=ι (b2e (gf:=w3.heap.size+1) (l:=le) (f:=0) B4.out (by have:=T3.out.below.size;omega))))
 go_ret2
 exact⟨rfl,B5.out⟩
theorem d4v(w:World)(T:TypeId)(gf gm g:Nat)(l:List Bool)(f b:Nat)(h:UnAt w T gf gm g l f)(hl:l.length≤25)(hf:f≤l.length)(ho:nextF l f=some b) :
  Calls Tryz.prog 203 #[.pointer (some ⟨gf,0,none⟩),.pointer (some ⟨gm,0,none⟩)] w fun e w'=>e = .returned (.tuple #[.int .i64 (b:Int),.bool true])∧w'=w.setCell ⟨gf,0,none⟩ (.int .i64 ((b+1:Nat):Int)):=by
 refine(b6i w T gf gm g l f h hl hf _ ho).mono ?_
 rintro e w' ⟨rfl,rfl⟩
 refine⟨rfl,?_⟩
 rw[nextW,ho]
theorem next_no(w:World)(T:TypeId)(gf gm g:Nat)(l:List Bool)(f:Nat)(h:UnAt w T gf gm g l f)(hl:l.length≤25)(hf:f≤l.length)(ho:nextF l f=none) :
  Calls Tryz.prog 203 #[.pointer (some ⟨gf,0,none⟩),.pointer (some ⟨gm,0,none⟩)] w fun e w'=>e = .returned (.tuple #[.int .i64 0,.bool false])∧w'=w:=by
 refine(b6i w T gf gm g l f h hl hf _ ho).mono ?_
 rintro e w' ⟨rfl,rfl⟩
 refine⟨rfl,?_⟩
 rw[nextW,ho]
theorem own_set{w:World}{B gm i:Nat}{e:TypeId}{sz n:Nat}{v u:Value}{cs:List Value}(h:rows.Own w B e sz v n cs)(hg:gm<B):rows.Own (w.setCell ⟨gm,i,none⟩ u) B e sz v n cs:=by
 refine⟨h.1,?_⟩
 rcases h.2 with h2|⟨g,cap,cur,hv,h3,h4,h5⟩
 ·exact Or.inl h2
 ·exact Or.inr ⟨g,cap,cur,hv,h3,(Below.heap_setCell _ _ _ _ (show g≠gm by omega)).trans h4,h5⟩
structure BAt (w:World) (ss:List (List Int)) (B gf gm g:Nat) (i f:Nat) (v:Value) (wr:World):Prop where
 cnt:i=(frU ss f).length
 own:rows.Own wr B 3 1 v i (i64s (ofNats (frU ss f)))
 un:UnAt wr 275 gf gm g (bU ss 16) f
 below:Below w.heap.size w wr
 size:B≤wr.heap.size
theorem BAt.set{w:World}{ss:List (List Int)}{B gf gm g:Nat}{i f:Nat}{v:Value}{wr:World}(h:BAt w ss B gf gm g i f v wr)(hw:w.heap.size≤gf)(hg:gf<B)(b:Nat) :
  rows.Own (wr.setCell ⟨gf,0,none⟩ (.int .i64 ((b+1:Nat):Int))) B 3 1 v i (i64s (ofNats (frU ss f)))∧UnAt (wr.setCell ⟨gf,0,none⟩ (.int .i64 ((b+1:Nat):Int))) 275 gf gm g (bU ss 16) (b+1)∧Below w.heap.size w (wr.setCell ⟨gf,0,none⟩ (.int .i64 ((b+1:Nat):Int)))∧B≤(wr.setCell ⟨gf,0,none⟩ (.int .i64 ((b+1:Nat):Int))).heap.size :=
 ⟨own_set h.own hg,h.un.set (b+1),h.below.setCell (p:=⟨gf,0,none⟩) hw _,by rw[World.size_setCell];exact h.size⟩
set_option maxRecDepth 100000 in
set_option maxHeartbeats 3200000 in
theorem c0k(w:World)(d:Value)(ss:List (List Int))(z:Int)(hd:Dk w d ss)(hz:wf64 z) :
  Calls Tryz.prog 170 #[d,.int .i64 z] w fun e w'=>∃q m k,e = .returned (.tuple #[.slice q m k,.bool (blkB ss z)])∧m=(blkL ss z).length∧Rd w' 1 (.slice q m k) m (i64s (blkL ss z))∧Below w.heap.size w w':=by
 have HNm:=ι (b1v w d ss hd)
 have HFi:=ι fun w' (hb:Below w.heap.size w w')=>c4m w' d ss (hd.later hb)
 have HEL:=ι (a7b ss 24)
 have HIL:=ι (a7a ss 24)
 have HBL:=ι (b1q ss 16)
 have hss:=hd.secs.1
 have HST:=ι fun f n h1 h2=>d1o hss (f:=f) (n:=n) h1 h2
 have HEN:=ι fun f h1 h2 h3=>blk_end hss (f:=f) h1 h2 h3
 have HD:=ι fun(b:Nat) (hb:b≤25) (hl:((frU ss b).length:Int)=z)=>d2u hb hl
 have HNo:=ι fun hl=>blk_not (ss:=ss) (z:=z) hl
 obtain⟨z1,z2⟩:=rows.wf_i64 hz
 clear hd hss hz
 generalize blkL ss z=L at *
 generalize blkB ss z=Y at *
 by_cases hneg:z<0
 ·obtain⟨e1,e2⟩:=HNo.out (Or.inl hneg)
  have E2:=ι e2
  subst e1
  clear e2
  go_enter Tryz.func170,Tryz.ntmps170
  go_wp2_with fail
  go_ret2
  exact⟨none,0,0,rfl,by rw[E2.out];rfl,by rw[E2.out];exact a6a _ 1,Below.refl _ _⟩
 ·obtain⟨n,rfl⟩:=Int.eq_ofNat_of_zero_le (show 0≤z by omega)
  clear z1 hneg
  generalize eU ss 24=le at HNm HEL
  generalize iU ss 24=li at HNm HFi HIL
  go_enter Tryz.func170,Tryz.ntmps170
  go_wp2_with (first
   | (go_at_call 166;refine HNm.out.mono ?_;rintro e w1 ⟨rfl,hb⟩;have T1:=ι (c1a hb);clear hb)
   | (refine c0t rfl (.tmp 6) (.tmp 18) rfl rfl w1.heap.size le (List.replicate 24 false) _ rfl rfl HEL.out rfl T1.out ?_;intro w2 hT;have T2:=ι hT;clear hT)
   | (refine c0z rfl (.tmp 7) (.tmp 19) rfl rfl w1.heap.size li (List.replicate 16 false) _ rfl rfl HIL.out rfl T2.out ?_;intro w3 hT;have T3:=ι hT;clear hT)
   | (refine c9b rowI rfl (.tmp 7) rfl (w1.heap.size+1) rfl li HIL.out T3.out.ri ?_)
   | (go_at_call 205;refine(HFi.out _ T3.out.below).mono ?_;rintro e w4 ⟨rfl,hb⟩;have B4:=ι (a0b T3.out.below hb);clear hb)
   | (refine c6r rowB rfl (.tmp 8) (.tmp 22) rfl rfl w4.heap.size (bU ss 16) marks0 rfl rfl HBL.out (by decide) (atB25 w4) ?_;intro w5 hA hB;have hb:=(a0a (Below.refl _ w4) _).trans hB;have B5:=ι (a0b B4.out hb);have A5:=ι hA;clear hA hB hb)
   | (go_at_call 167;refine(b4t _ _ _ _ _).mono ?_;rintro e w6 ⟨rfl,hw6⟩;have U6:Hid (UnAt w6 275 (w5.heap.size+1) w5.heap.size w4.heap.size (bU ss 16) 1):=ι (by rw[hw6];exact b4p 1 HBL.out A5.out);have B6:Hid (Below w.heap.size w w6):=ι (by rw[hw6];exact a0a (a0a B5.out _) _);have Z6:Hid (w6.heap.size=w5.heap.size+2):=ι (by rw[hw6];simp);have Z5:Hid (w4.heap.size<w5.heap.size∧w.heap.size≤w4.heap.size):=ι ⟨A5.out.lt,B4.out.size⟩;clear hw6))
  clear T1 T2 T3 B4 B5 A5 HNm HFi HEL HIL
  go_loopw [10,11,12,26] (fun fv _ _ iv wr=>∃(i f:Nat) (q:Option Addr) (k:Nat),iv = .int .i64 (i:Int)∧i≤n∧i≤24∧fv = .slice q i k∧1≤f∧f≤25∧Hid (BAt w ss w6.heap.size (w5.heap.size+1) w5.heap.size w4.heap.size i f (.slice q i k) wr)) (fun _ _ _ iv _=>n-(intOf iv).toNat)
  case atStart=>exact⟨0,1,none,0,rfl,by omega,by omega,rfl,by omega,by omega,ι ⟨by simp[frU,used0],by simp[frU,used0,ofNats,i64s];exact a2q _ _ _ _,U6.out,B6.out,Nat.le_refl _⟩⟩
  case round =>
   obtain⟨i,f,q,k,rfl,hin,hi24,rfl,hf1,hf2,HB⟩:=hrel
   clear U6 B6
   by_cases hlt:i<n
   ·have hlti:(i:Int)<(n:Int):=by omega
    have HSTf:=ι fun b h=>HST.out f b hf1 h
    have HENf:=ι fun h=>HEN.out f hf1 hf2 h
    cases ho:nextF (bU ss 16) f with
    | none =>
     have hend:=HENf.out ho
     obtain⟨e1,e2⟩:=HNo.out (Or.inr (by rw[hend,← HB.out.cnt];omega))
     have E2:=ι e2
     have HO:=ι ho
     subst e1
     clear e2 ho hend
     go_wp2_with (go_at_call 203;refine(next_no _ _ _ _ _ _ f HB.out.un (by rw[HBL.out];omega) (by rw[HBL.out];exact hf2) HO.out).mono ?_;rintro e w7 ⟨rfl,hw⟩;obtain rfl:wr=w7:=hw.symm)
     go_ret2
     exact⟨none,0,0,rfl,by rw[E2.out];rfl,by rw[E2.out];exact a6a _ 1,HB.out.below⟩
    | some b =>
     obtain⟨g1,g2,g3⟩:=HSTf.out b ho
     have G3:=ι g3
     have HO:=ι ho
     have hlen:Hid ((frU ss (b+1)).length=i+1):=ι (by rw[g3,List.length_append,← HB.out.cnt];rfl)
     have h24:i+1≤24:=by
      have:=c8l ss (b+1)
      have h0:=c9i ss b
      rw[hlen.out] at h0
      omega
     clear g3 ho
     have HSZ:Hid (w.heap.size≤w5.heap.size+1∧w5.heap.size+1<w6.heap.size):=ι (by have:=Z6.out;have:=Z5.out;omega)
     obtain⟨hO,hU,hB',hS⟩:=HB.out.set HSZ.out.1 HSZ.out.2 b
     have HO7:=ι hO
     have HU7:=ι hU
     have HB7:=ι hB'
     have HS7:=ι hS
     clear hO hU hB' hS
     go_wp2_with (first
      | (go_at_call 203;refine(d4v _ _ _ _ _ _ f b HB.out.un (by rw[HBL.out];omega) (by rw[HBL.out];exact hf2) HO.out).mono ?_;rintro e w7 ⟨rfl,hw⟩;rw[← hw] at HO7 HU7 HB7 HS7;clear hw)
      | (at_builtin;refine b7s elem_is rfl (.tmp 35) (.tmp 37) rfl w6.heap.size _ i _ rfl (HO7.out.alloc _) _ 1 [.int .i64 (b:Int)] rfl (d4z _ _ 1 #[.int .i64 (b:Int)] rfl) (by simp[Value.oneCell']) (by omega) (by have:=HS7.out;simp;omega) ?_;intro pa ca wa ho hb;have HOa:=ι ho;have HUa:=ι (HU7.out.below (((Below.refl w6.heap.size w7).alloc HS7.out (.cells #[.int .i64 (b:Int)] 3)).trans hb) HSZ.out.2 (by have:=HSZ.out;omega) (by have:=HSZ.out;have:=Z5.out;omega));have HBa:=ι ((a0a HB7.out (.cells #[.int .i64 (b:Int)] 3)).trans (hb.mono (by have:=HSZ.out;omega)));have HSa:=ι (Nat.le_trans (Nat.le_trans HS7.out (by simp:w7.heap.size≤(w7.alloc (.cells #[.int .i64 (b:Int)] 3)).heap.size)) hb.size);clear ho hb))
     go_roundw
     case rel=>exact⟨i+1,b+1,pa,ca,by go_num,by omega,by omega,rfl,by omega,by omega,ι ⟨hlen.out.symm,by rw[G3.out,c0x,← c8c];exact HOa.out,HUa.out,HBa.out,HSa.out⟩⟩
     case measure=>simp[intOf];omega
   ·obtain rfl:i=n:=by omega
    obtain⟨e1,e2⟩:=HD.out f hf2 (by rw[← HB.out.cnt])
    have E2:=ι e2
    subst e1
    clear e2
    go_wp2_with fail
    go_ret2
    exact⟨q,i,k,rfl,by rw[E2.out,a2z];exact HB.out.cnt,by rw[E2.out];exact HB.out.own.rd,HB.out.below⟩
end al
end Go.Proofs.YtpnahagiojelbaaGreatDoor
