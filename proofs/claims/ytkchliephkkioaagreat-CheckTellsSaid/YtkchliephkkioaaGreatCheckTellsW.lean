/- What CheckTells wants, part 23. -/
import Derived.Test.YtkchliephkkioaaGreatCheckTellsB
import Derived.Test.YtkchliephkkioaaGreatCheckTellsS
import Derived.Test.YtkchliephkkioaaGreatCheckTellsV
set_option linter.unusedVariables false
set_option linter.unusedSimpArgs false
namespace Go.Proofs.YtkchliephkkioaaGreat
namespace lk
set_option maxRecDepth 100000
open Go.ChangeShapes Go.WideShapes Go.ChangeAt Go.RowKit
open rows
open sec
open ly
open rng
attribute [local go_sem] Oper.semAt_some
def softE(o:Obj):Prop:=∃cs t fr,o = .cells cs t fr∧t≠25∧t≠94
theorem b3r(o:Obj)(h:softE o):o.isCells=true:=by
 obtain⟨cs,t,fr,rfl,_⟩:=h
 rfl
def those(p:Nat→Bool)(k:Nat):List Nat:=(List.range k).filter p
theorem a1w{p:Nat→Bool}{k:Nat}(h:p k=true):those p (k+1)=those p k++[k]:=by
 rw[those,List.range_succ,List.filter_append];simp[h,those]
theorem a2r{p:Nat→Bool}{k:Nat}(h:p k=false):those p (k+1)=those p k:=by
 rw[those,List.range_succ,List.filter_append];simp[h,those]
theorem a2v(p:Nat→Bool){k:Nat}:∀{m:Nat},k≤m→those p k <+: those p m
 | 0,h=>by
   obtain rfl:k=0:=by omega
   exact List.prefix_refl _
 | m+1,h=>by
  by_cases e:k=m+1
  ·subst e;exact List.prefix_refl _
  ·refine(a2v p (k:=k) (m:=m) (by omega)).trans ?_
   cases hp:p m with
   | true=>rw[a1w hp];exact List.prefix_append _ _
   | false=>rw[a2r hp];exact List.prefix_refl _
theorem those_mem{p:Nat→Bool}{k j:Nat}:j∈those p k↔j<k∧p j=true:=by simp[those]
def entB(ss:List (List Int))(k:Nat):Bool:=(entAt ss (k:Int)).used
set_option maxRecDepth 100000 in
set_option maxHeartbeats 2000000 in
theorem b8e(w0:World)(d:Value)(ss:List (List Int))(hd:Dk w0 d ss)(bd:Nat)(m:Nat→Obj→Prop)(w:World)(hb:Below w0.heap.size w0 w)(hbox:Go.Boxed w bd 25 d)(hZ:∀b o,m b o→w0.heap.size≤b)(hZd:∀v,¬m bd (.cells #[v] 25 (0,0))) :
  Seq Tryz.prog 105 #[.pointer (some ⟨bd,0,none⟩)] (fun k:Nat => #[.int .i64 (k:Int),aggE (entAt ss (k:Int))]) softE m (fun ys=>ys=those (entB ss) 24) (fun pre=>pre <+: those (entB ss) 24) w:=by
 intro l J Jx W hW _ hJ hJx hY h0
 have HJ:=ι hJ
 have HY:=ι hY
 have HZ:=ι hZ
 have HZD:=ι hZd
 have HB0:Hid (Below w0.heap.size w0 W):=ι (hb.trans (hW.mono hb.size))
 have HX0:Hid (Go.Boxed W bd 25 d):=ι ((hW.block _ hbox.lt).trans hbox)
 have H0:=ι h0
 have HE:=ι fun(k:Nat) (hk:k<24) w' (h:Below w0.heap.size w0 w')=>b2k w' d ss (k:Int) (hd.later h) (a0l (by omega))
 clear hJ hY hZ hZd hb hW hbox h0 hd hJx
 refine(callsIn_wide (n:=10)).1 (callsIn_of_wp Tryz.func105 rfl trivial ?_ rfl)
 simp only[Tryz.ntmps105,List.size_toArray,List.length_cons,List.length_nil,Nat.reduceAdd,Nat.reduceSub,Array.replicate_succ,Array.replicate_zero,List.push_toArray,List.append_toArray,List.nil_append,List.cons_append]
 gi_wp2
 gi_loopw [5] (fun kv wr=>∃k:Nat,k≤24∧kv = .int .i64 (k:Int)∧Hid (J (those (entB ss) k) wr)∧Hid (Below w0.heap.size w0 wr)∧Hid (Go.Boxed wr bd 25 d)∧Hid (W.heap.size≤wr.heap.size))
  (fun kv _=>24-(intOf kv).toNat)
 case atStart=>exact⟨0,Nat.zero_le _,rfl,H0,HB0,HX0,ι (Nat.le_refl _)⟩
 case round =>
  obtain⟨k,hk,rfl,HJS,HB,HX,HS⟩:=hrel
  by_cases hlt:k<24
  ·have hlt1:(k:Int)<24:=by omega
   have HEk:=ι (HE.out k hlt wr HB.out)
   have HYk:=ι fun W1 hj hs hp=>HY.out (those (entB ss) k) k W1 hj hs hp
   have cd:=HX.out.cell
   have hub:entB ss k=(entAt ss (k:Int)).used:=rfl
   generalize entAt ss (k:Int)=x at HEk HYk hub
   obtain⟨u,pa,nm,tg⟩:=x
   simp only at hub
   cases u with
   | false =>
    have HT:=ι (a2r hub)
    clear hub HYk
    gi_wp2_with (refine⟨trivial,?_⟩;gi_at_call 45;refine(callsIn_wide.2 HEk.out).mono ?_;rintro e w2 ⟨rfl,hb2⟩;have HB2:=ι hb2;clear hb2)
    all_goals
     refine⟨fun _ h=>(by cases h),?_⟩
     gi_wp2
     go_roundw
     case rel=>exact⟨k+1,by omega,by go_num,ι (by rw[HT.out];exact HJ.out _ _ _ HJS.out (Calm.of_below (a0a HB2.out _))),ι (HB.out.trans ((a0a HB2.out _).mono HB.out.size)),ι ((Calm.of_below (B:=0) (a0a HB2.out _)).boxed HX.out),ι (Nat.le_trans HS.out (a0a HB2.out _).size)⟩
     case measure=>simp[intOf];omega
   | true =>
    have HT:=ι (a1w hub)
    have HP:Hid (those (entB ss) k++[k] <+: those (entB ss) 24):=ι (by rw[← HT.out];exact a2v _ (by omega))
    clear hub
    have HYw:=ι fun w2 (hb2:Below wr.heap.size wr w2)=>a1m 9 (HYk.out (w2.alloc (.cells #[.bool true,.int .i64 pa,.string nm,.int .i64 tg] 65)) (HJ.out _ _ _ HJS.out (Calm.of_below (a0a hb2 _))) (Nat.le_trans HS.out (a0a hb2 _).size) HP.out)
    gi_wp2_with (refine⟨trivial,?_⟩;gi_at_call 45;refine(callsIn_wide.2 HEk.out).mono ?_;rintro e w2 ⟨rfl,hb2⟩;have HB2:=ι hb2;obtain⟨fn,tmps,assign,body,hy,hR⟩:=HYw.out w2 hb2;replace hy:(Instr.yield l #[.int .i64 (k:Int),.agg #[.bool true,.int .i64 pa,.string nm,.int .i64 tg]]).run Tryz.prog (w2.alloc (.cells #[.bool true,.int .i64 pa,.string nm,.int .i64 tg] 65)) = .ok (.round l fn tmps assign body) (w2.alloc (.cells #[.bool true,.int .i64 pa,.string nm,.int .i64 tg] 65)):=hy;clear hb2)
    refine hR.mono ?_
    have HBa:=ι (a0a HB2.out (.cells #[.bool true,.int .i64 pa,.string nm,.int .i64 tg] 65))
    rintro e W3 (⟨rfl,hJ3,hT3⟩|⟨rfl,hJx3,hT3⟩)
    ·have HJ3:=ι hJ3
     have HB3:Hid (Below w0.heap.size w0 W3):=ι ((HB.out.trans (HBa.out.mono HB.out.size)).trans (hT3.below (Nat.le_trans HB.out.size HBa.out.size) fun i o hi=>HZ.out i o hi))
     have HX3:Hid (Go.Boxed W3 bd 25 d):=ι (hT3.keep _ _ ((Calm.of_below (B:=0) HBa.out).boxed HX.out) (HZD.out _))
     have HS3:Hid (W.heap.size≤W3.heap.size):=ι (Nat.le_trans HS.out (Nat.le_trans HBa.out.size hT3.size))
     clear hy hR hJ3 hT3 HBa HB2
     gi_wp2
     go_roundw
     case rel=>exact⟨k+1,by omega,by go_num,ι (by rw[HT.out];exact HJ3.out),HB3,HX3,HS3⟩
     case measure=>simp[intOf];omega
    ·have HJX3:=ι hJx3
     clear hy hR hJx3 hT3 HBa HB2
     gi_wp2
     refine bodyPost_ret (results_none rfl _ _ _) rfl ?_
     exact⟨⟨_,rfl⟩,.inr ⟨_,HP.out,HJX3.out⟩⟩
  ·obtain rfl:k=24:=by omega
   gi_wp2
   go_end0
   exact⟨⟨_,rfl⟩,.inl ⟨_,rfl,HJS.out⟩⟩
end lk
namespace lk
set_option maxRecDepth 100000
open Go.ChangeShapes Go.WideShapes Go.ChangeAt Go.RowKit
open rows
open sec
open dsk (wf64)
open ly
open rng
attribute [local go_sem] Oper.semAt_some
theorem b5g(p:Option Addr)(w:World):Calls Tryz.prog 98 #[.pointer p] w fun e w'=>e = .returned (.func (.func 105) #[] #[.pointer (some ⟨w.heap.size,0,none⟩)])∧w'=w.alloc (.cells #[.pointer p] 25):=by
 go_enter Tryz.func98,Tryz.ntmps98
 go_wp2
 go_ret
 exact⟨rfl,rfl⟩
theorem b1u{w:World}{d:Value}{ss:List (List Int)}(h:Dk w d ss):∃p,d = .pointer p:=by
 rcases h with⟨rfl,_⟩|⟨F,st,⟨z,g,vs,vw,vn,vl,vf,rfl,_⟩,_⟩
 ·exact⟨_,rfl⟩
 ·exact⟨_,rfl⟩
def noneOf(ss:List (List Int))(i:Int)(l:List Nat):Prop:=∀k,k∈l→(entAt ss (k:Int)).target≠i
theorem b8h{ss:List (List Int)}{i:Int}(h:noneOf ss i (those (entB ss) 24))(hi:i≠0):takenB ss i=false:=by
 rw[takenB,decide_eq_false hi,Bool.or_false,namedIn,List.any_eq_false]
 intro j hj
 cases hu:(entAt ss (j:Int)).used with
 | false=>simp
 | true =>
  have:=h j (those_mem.2 ⟨List.mem_range.1 hj,hu⟩)
  simp[this]
theorem b6l{ss:List (List Int)}{i:Int}{k:Nat}(h:k∈those (entB ss) 24)(ht:(entAt ss (k:Int)).target=i):takenB ss i=true:=by
 have:namedIn ss i 24=true:=by
  rw[namedIn,List.any_eq_true]
  obtain⟨h1,h2⟩:=those_mem.1 h
  exact⟨k,List.mem_range.2 h1,by rw[show (entAt ss (k:Int)).used=true from h2,ht];simp⟩
 rw[takenB,this];rfl
set_option maxRecDepth 100000 in
set_option maxHeartbeats 2000000 in
theorem b5n(w:World)(d:Value)(ss:List (List Int))(i:Int)(h:Dk w d ss)(hi:wf64 i):Calls Tryz.prog 84 #[d,.int .i64 i] w (Rt w (.bool (takenB ss i))):=by
 by_cases hz:i=0
 ·subst hz
  have HT:Hid (takenB ss 0=true):=ι (by rw[takenB];simp)
  clear h hi
  have B1:=(Go.Boxed.new (w.alloc (.cells #[.int .i64 0] 3)) 4 (.bool false)).set (.bool true)
  rw[World.size_alloc] at B1
  have c1:=B1.cell
  clear B1
  go_enter Tryz.func84,Tryz.ntmps84
  go_wp2_with fail
  refine bodyPost_ret (v := .bool true) (by simp[results,Tryz.f84,go_sem,c1]) rfl ⟨by rw[HT.out],a0a (a0a (Below.refl _ _) _) _⟩
 ·have HD:=ι h
  obtain⟨p,rfl⟩:=b1u h
  have HZ:=ι hz
  have hzb:(i == 0)=false:=beq_eq_false_iff_ne.2 hz
  clear h hi hz
  have hB0:=a0a (a0a (a0a (Below.refl w.heap.size w) (.cells #[.int .i64 i] 3)) (.cells #[.bool false] 4)) (.cells #[.pointer p] 25)
  have b0:=((Go.Boxed.new w 3 (.int .i64 i)).alloc (.cells #[.bool false] 4)).alloc (.cells #[.pointer p] 25)
  have b1:=(Go.Boxed.new (w.alloc (.cells #[.int .i64 i] 3)) 4 (.bool false)).alloc (.cells #[.pointer p] 25)
  have b2:=Go.Boxed.new ((w.alloc (.cells #[.int .i64 i] 3)).alloc (.cells #[.bool false] 4)) 25 (.pointer p)
  simp only[World.size_alloc] at b1 b2
  have hsz:(((w.alloc (.cells #[.int .i64 i] 3)).alloc (.cells #[.bool false] 4)).alloc (.cells #[.pointer p] 25)).heap.size=w.heap.size+3:=by simp[World.size_alloc]
  obtain⟨W0,hW0⟩:∃W0,((w.alloc (.cells #[.int .i64 i] 3)).alloc (.cells #[.bool false] 4)).alloc (.cells #[.pointer p] 25)=W0:=⟨_,rfl⟩
  rw[hW0] at hB0 b0 b1 b2 hsz
  have HB0:=ι hB0
  have B0:=ι b0
  have B1:=ι b1
  have B2:=ι b2
  have HSZ:=ι hsz
  clear hB0 b0 b1 b2 hsz
  refine(callsIn_wide (n:=10)).1 (callsIn_of_wp_marks Tryz.func84 rfl trivial ?_ rfl)
  simp only[Tryz.ntmps84,List.size_toArray,List.length_cons,List.length_nil,Nat.reduceAdd,Nat.reduceSub,Array.replicate_succ,Array.replicate_zero,List.push_toArray,List.append_toArray,List.nil_append,List.cons_append]
  gi_wp2_with (refine⟨trivial,?_⟩;gi_at_call 98;refine(callsIn_wide.2 (b5g _ _)).mono ?_;rintro e w2 ⟨rfl,rfl⟩)
  try rw[hW0]
  clear hW0
  refine a2f (gf:=105) (lb := #[.pointer (some ⟨w.heap.size+1+1,0,none⟩)]) rfl (enters_of Tryz.func105 (by kernel_rfl) rfl)
   (b8e w (.pointer p) ss HD.out (w.heap.size+1+1) (fun b _=>b=W0.heap.size+1∨False) W0 HB0.out B2.out (fun b o hb=>by have:=HSZ.out;rcases hb with hb|hb;(omega);(exact hb.elim)) (fun v hb=>by have:=HSZ.out;rcases hb with hb|hb;(omega);(exact hb.elim))) (fun b o h=>h.elim) b3r (fun _=>rfl)
   (fun pre W=>noneOf ss i pre∧Go.Boxed W w.heap.size 3 (.int .i64 i)∧Go.Boxed W (w.heap.size+1) 4 (.bool false)∧Below w.heap.size w W)
   (fun c pre W=>c = .ret∧takenB ss i=true∧Go.Boxed W (w.heap.size+1) 4 (.bool true)∧Below w.heap.size w W)
   (fun s A B h hc=>⟨h.1,hc.boxed h.2.1,hc.boxed h.2.2.1,h.2.2.2.trans (hc.below (by have:=HSZ.out;omega) h.2.2.2.size)⟩)
   (fun c s A B h hc=>⟨h.1,h.2.1,hc.boxed h.2.2.1,h.2.2.2.trans (hc.below (by have:=HSZ.out;omega) h.2.2.2.size)⟩)
   ⟨fun k hk=>(by cases hk),B0.out,B1.out,HB0.out⟩
   (fun pre k a' W=>(noneOf ss i pre∧Go.Boxed W w.heap.size 3 (.int .i64 i)∧Go.Boxed W (w.heap.size+1) 4 (.bool false)∧Below w.heap.size w W)∧∃Bx,AtE W Bx (entAt ss (k:Int))∧a'={ tmps := #[.pointer p,.int .i64 i,undef,.pointer (some ⟨w.heap.size,0,none⟩),.pointer (some ⟨w.heap.size+1,0,none⟩),undef,.pointer (some ⟨Bx,0,none⟩),.int .i64 i,.bool false,.pointer p,.func (.func 105) #[] #[.pointer (some ⟨w.heap.size+1+1,0,none⟩)],.int .i64 (k:Int),aggE (entAt ss (k:Int)),undef,undef,undef,undef],defers:=[] })
   (fun s k a' A B h hc=>by
    obtain⟨h1,Bx,h2,h3⟩:=h
    exact⟨⟨h1.1,hc.boxed h1.2.1,hc.boxed h1.2.2.1,h1.2.2.2.trans (hc.below (by have:=HSZ.out;omega) h1.2.2.2.size)⟩,Bx,hc.block _ _ h2 (Or.inr rfl),h3⟩)
   ?assign ?body ?done ?stop
  case assign =>
   rintro l pre k W hI hsz _
   generalize entAt ss (k:Int)=x
   obtain⟨u,pa,nm,tg⟩:=x
   have HI:=ι hI
   clear hI
   gi_wp2
   have hb:=a0a (Below.refl W.heap.size W) (.cells #[.bool u,.int .i64 pa,.string nm,.int .i64 tg] 65)
   exact⟨⟨⟨HI.out.1,HI.out.2.1.alloc _,HI.out.2.2.1.alloc _,a0b HI.out.2.2.2 hb⟩,W.heap.size,a1t W ⟨u,pa,nm,tg⟩,rfl⟩,Turn.of_below hb⟩
  case body =>
   rintro l pre k a' W ⟨hI,Bx,hX,rfl⟩ hsz hsp
   have HI:=ι hI
   have HSP:=ι hsp
   have b0:=hI.2.1.cell
   have b1:=hI.2.2.1.cell
   have f1:=hI.2.2.1.frozen
   have x3:=hX.cell3
   obtain⟨g,hg⟩:∃g,(entAt ss (k:Int)).target=g:=⟨_,rfl⟩
   have HG:=ι hg
   rw[hg] at x3
   generalize aggE (entAt ss (k:Int))=ax
   clear hI hsp hg hX
   by_cases ht:g=i
   ·have hgb:(g == i)=true:=by rw[ht];simp
    have HTK:Hid (takenB ss i=true):=ι (b6l (HSP.out.subset (List.mem_append_right _ (List.mem_singleton.2 rfl))) (HG.out.trans ht))
    subst ht
    clear hgb
    gi_wp2
    exact⟨⟨rfl,HTK.out,HI.out.2.2.1.set _,HI.out.2.2.2.setCell (p:=⟨w.heap.size+1,0,none⟩) (Nat.le_succ _) _⟩,(Turn.of_touch ((dsk.Touch.refl _ W).setCell (S:=fun b=>b<W0.heap.size) ⟨w.heap.size+1,0,none⟩ (by show w.heap.size+1<W0.heap.size;have:=HSZ.out;omega) _)).mono fun _ _ h=>Or.inl h⟩
   ·have hgb:(g == i)=false:=beq_eq_false_iff_ne.2 ht
    have HNE:=ι ht
    clear ht
    gi_wp2
    refine⟨⟨fun j hj => ?_,HI.out.2⟩,Turn.refl _ W⟩
    rcases List.mem_append.1 hj with hj|hj
    ·exact HI.out.1 j hj
    ·rw[List.mem_singleton.1 hj,HG.out];exact HNE.out
  case done =>
   rintro D ys W hD rfl hI hK
   have HI:=ι hI
   have b1:=hI.2.2.1.cell
   have f1:=hI.2.2.1.frozen
   clear hI
   gi_wp2
   have hK':=(KeepsOthers.setCell W ⟨w.heap.size+1,0,none⟩ (.bool false)).same D _ hK rfl
   refine⟨by simp,.inl ⟨_,_,rfl,run_takeDeferred hK',?_⟩⟩
   have hb:=HI.out.2.2.2.setCell (p:=⟨w.heap.size+1,0,none⟩) (Nat.le_succ _) (.bool false)
   have hq:=cell_kept (HI.out.2.2.1.set (.bool false)).cell (grownBy_putObj' _ D (.deferred none)) (fun r e=>by cases e;exact⟨_,hK',rfl⟩)
   refine⟨.bool false,by simp[results,Tryz.f84,go_sem,hq],by rw[b8h HI.out.1 HZ.out],hb.grown (grownBy_putObj' _ D (.deferred none)) hb.size (fun k e=>by cases e;have:=HSZ.out;omega)⟩
  case stop =>
   rintro D c pre W hD hp ⟨rfl,ht,hx,hb⟩ hK
   have HB:=ι hb
   have HX:=ι hx
   have HT:=ι ht
   clear hb hx ht
   gi_wp2
   refine⟨by simp,.inl ⟨_,_,rfl,run_takeDeferred hK,?_⟩⟩
   have hq:=cell_kept HX.out.cell (grownBy_putObj' _ D (.deferred none)) (fun r e=>by cases e;exact⟨_,hK,rfl⟩)
   refine⟨.bool true,by simp[results,Tryz.f84,go_sem,hq],by rw[HT.out],HB.out.grown (grownBy_putObj' _ D (.deferred none)) HB.out.size (fun k e=>by cases e;have:=HSZ.out;omega)⟩
end lk
end Go.Proofs.YtkchliephkkioaaGreat
