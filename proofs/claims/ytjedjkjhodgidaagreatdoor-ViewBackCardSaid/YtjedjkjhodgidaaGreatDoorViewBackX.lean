/- What ViewBack wants, part 24. -/
import Derived.Test.YtjedjkjhodgidaaGreatDoorViewBackB
import Derived.Test.YtjedjkjhodgidaaGreatDoorViewBackD
import Derived.Test.YtjedjkjhodgidaaGreatDoorViewBackE
import Derived.Test.YtjedjkjhodgidaaGreatDoorViewBackQ
import Derived.Test.YtjedjkjhodgidaaGreatDoorViewBackT
import Derived.Test.YtjedjkjhodgidaaGreatDoorViewBackU
import Derived.Test.YtjedjkjhodgidaaGreatDoorViewBackV
import Derived.Test.YtjedjkjhodgidaaGreatDoorViewBackW
set_option linter.unusedVariables false
set_option linter.unusedSimpArgs false
namespace Go.Proofs.YtjedjkjhodgidaaGreatDoor
namespace lk
set_option maxRecDepth 100000
open Go.ChangeShapes Go.WideShapes Go.ChangeAt Go.RowKit
open rows
open sec
open ly
open rng
attribute [local go_sem] Oper.semAt_some
theorem a8f{p:Nat→Bool}{k:Nat}{pre:List Nat}:∀{m:Nat},pre++[k] <+: those p m→k<m∧p k=true∧∀j,j<k→p j=true→j∈pre
 | 0,h=>by
  have:=h.length_le
  simp[those] at this
 | m+1,h=>by
  cases hp:p m with
  | false =>
   rw[a8k hp] at h
   obtain⟨h1,h2,h3⟩:=a8f h
   exact⟨by omega,h2,h3⟩
  | true =>
   rw[a5v hp,List.prefix_concat_iff] at h
   rcases h with h|h
   ·obtain⟨h1,h2⟩:=List.append_inj' h rfl
    obtain rfl:k=m:=by simpa using h2
    exact⟨by omega,hp,fun j hj hpj=>by rw[h1];exact those_mem.2 ⟨hj,hpj⟩⟩
   ·obtain⟨h1,h2,h3⟩:=a8f h
    exact⟨by omega,h2,h3⟩
theorem b0v(ss:List (List Int))(i:Int)(nm:ByteArray)(k:Nat):inB ss i nm k=(inDir ss i k && decide ((entAt ss (k:Int)).name=nm)):=rfl
def noName(ss:List (List Int))(nm:ByteArray)(l:List Nat):Prop:=∀k,k∈l→(entAt ss (k:Int)).name≠nm
theorem find_no{ss:List (List Int)}{i:Int}{nm:ByteArray}(h:noName ss nm (those (inDir ss i) 24)):findO ss i nm=none :=
 upto_none.2 fun j hj=>by
  rw[b0v]
  cases hd:inDir ss i j with
  | false=>rfl
  | true=>rw[decide_eq_false (h j (those_mem.2 ⟨hj,hd⟩))];rfl
theorem b9o{ss:List (List Int)}{i:Int}{nm:ByteArray}{k:Nat}{pre:List Nat}(hp:pre++[k] <+: those (inDir ss i) 24)(h:noName ss nm pre)(hk:(entAt ss (k:Int)).name=nm):findO ss i nm=some k:=by
 obtain⟨h1,h2,h3⟩:=a8f hp
 refine b2x (upto_none.2 fun j hj => ?_) (by rw[b0v,h2,decide_eq_true hk];rfl) 24 h1
 rw[b0v]
 cases hd:inDir ss i j with
 | false=>rfl
 | true=>rw[decide_eq_false (h j (h3 j hj hd))];rfl
set_option maxRecDepth 100000 in
set_option maxHeartbeats 2000000 in
theorem b9q(w:World)(d:Value)(ss:List (List Int))(i:Int)(nm:ByteArray)(h:Dk w d ss):Calls Tryz.prog 56 #[d,.int .i64 i,.string nm] w (Rt w (optV (findO ss i nm))):=by
 have HD:=ι h
 obtain⟨p,rfl⟩:=b6z h
 clear h
 have hB0:=a0b (a0b (a0b (a0b (a0b (Below.refl w.heap.size w) (.cells #[.string nm] 9)) (.cells #[.int .i64 0] 3)) (.cells #[.bool false] 4)) (.cells #[.pointer p] 28)) (.cells #[.int .i64 i] 3)
 have b0:=((((Go.Boxed.new w 9 (.string nm)).alloc (.cells #[.int .i64 0] 3)).alloc (.cells #[.bool false] 4)).alloc (.cells #[.pointer p] 28)).alloc (.cells #[.int .i64 i] 3)
 have b1:=(((Go.Boxed.new (w.alloc (.cells #[.string nm] 9)) 3 (.int .i64 0)).alloc (.cells #[.bool false] 4)).alloc (.cells #[.pointer p] 28)).alloc (.cells #[.int .i64 i] 3)
 have b2:=((Go.Boxed.new ((w.alloc (.cells #[.string nm] 9)).alloc (.cells #[.int .i64 0] 3)) 4 (.bool false)).alloc (.cells #[.pointer p] 28)).alloc (.cells #[.int .i64 i] 3)
 have b3:=(Go.Boxed.new (((w.alloc (.cells #[.string nm] 9)).alloc (.cells #[.int .i64 0] 3)).alloc (.cells #[.bool false] 4)) 28 (.pointer p)).alloc (.cells #[.int .i64 i] 3)
 have b4:=Go.Boxed.new ((((w.alloc (.cells #[.string nm] 9)).alloc (.cells #[.int .i64 0] 3)).alloc (.cells #[.bool false] 4)).alloc (.cells #[.pointer p] 28)) 3 (.int .i64 i)
 simp only[World.size_alloc] at b1 b2 b3 b4
 have hsz:(((((w.alloc (.cells #[.string nm] 9)).alloc (.cells #[.int .i64 0] 3)).alloc (.cells #[.bool false] 4)).alloc (.cells #[.pointer p] 28)).alloc (.cells #[.int .i64 i] 3)).heap.size=w.heap.size+5:=by simp[World.size_alloc]
 obtain⟨W0,hW0⟩:∃W0,((((w.alloc (.cells #[.string nm] 9)).alloc (.cells #[.int .i64 0] 3)).alloc (.cells #[.bool false] 4)).alloc (.cells #[.pointer p] 28)).alloc (.cells #[.int .i64 i] 3)=W0:=⟨_,rfl⟩
 rw[hW0] at hB0 b0 b1 b2 b3 b4 hsz
 have HB0:=ι hB0
 have B0:=ι b0
 have B1:=ι b1
 have B2:=ι b2
 have B3:=ι b3
 have B4:=ι b4
 have HSZ:=ι hsz
 clear hB0 b0 b1 b2 b3 b4 hsz
 refine(callsIn_wide (n:=10)).1 (callsIn_of_wp_marks Tryz.func56 rfl trivial ?_ rfl)
 simp only[Tryz.ntmps56,List.size_toArray,List.length_cons,List.length_nil,Nat.reduceAdd,Nat.reduceSub,Array.replicate_succ,Array.replicate_zero,List.push_toArray,List.append_toArray,List.nil_append,List.cons_append]
 gi_wp2_with (refine⟨trivial,?_⟩;gi_at_call 107;refine(callsIn_wide.2 (a5m _ _ _)).mono ?_;rintro e w2 ⟨rfl,rfl⟩)
 try rw[hW0]
 clear hW0
 refine a4m (gf:=148) (lb := #[.pointer (some ⟨w.heap.size+1+1+1,0,none⟩),.pointer (some ⟨w.heap.size+1+1+1+1,0,none⟩)]) rfl (enters_of Tryz.func148 (by kernel_rfl) rfl)
  (a6t w p ss HD.out i (w.heap.size+1+1+1) (w.heap.size+1+1+1+1) (fun b _=>b=W0.heap.size+1∨False) W0 HB0.out B3.out B4.out (fun b o hb=>by
   have:=HSZ.out
   rcases hb with hb|hb
   ·omega
   ·exact hb.elim) (fun o hb=>by
   have:=HSZ.out
   rcases hb with hb|hb
   ·omega
   ·exact hb.elim) (fun o hb=>by
   have:=HSZ.out
   rcases hb with hb|hb
   ·omega
   ·exact hb.elim)) (fun b o h=>h.elim) a4t (fun _=>rfl)
  (fun pre W=>noName ss nm pre∧Go.Boxed W w.heap.size 9 (.string nm)∧Go.Boxed W (w.heap.size+1) 3 (.int .i64 0)∧Go.Boxed W (w.heap.size+1+1) 4 (.bool false)∧Below w.heap.size w W)
  (fun c pre W=>c = .ret∧∃k:Nat,findO ss i nm=some k∧Go.Boxed W (w.heap.size+1) 3 (.int .i64 (k:Int))∧Go.Boxed W (w.heap.size+1+1) 4 (.bool true)∧Below w.heap.size w W)
  (fun s A B h hc=>⟨h.1,hc.boxed h.2.1,hc.boxed h.2.2.1,hc.boxed h.2.2.2.1,h.2.2.2.2.trans (hc.below (by have:=HSZ.out;omega) h.2.2.2.2.size)⟩)
  (fun c s A B h hc=>by
   obtain⟨h1,k,h2,h3,h4,h5⟩:=h
   exact⟨h1,k,h2,hc.boxed h3,hc.boxed h4,h5.trans (hc.below (by have:=HSZ.out;omega) h5.size)⟩)
  ⟨fun k hk=>(by cases hk),B0.out,B1.out,B2.out,HB0.out⟩
  (fun pre k a' W=>(noName ss nm pre∧Go.Boxed W w.heap.size 9 (.string nm)∧Go.Boxed W (w.heap.size+1) 3 (.int .i64 0)∧Go.Boxed W (w.heap.size+1+1) 4 (.bool false)∧Below w.heap.size w W)∧∃Bx,AtE W Bx (entAt ss (k:Int))∧a'={ tmps := #[.pointer p,.int .i64 i,.string nm,undef,undef,.pointer (some ⟨w.heap.size,0,none⟩),.pointer (some ⟨w.heap.size+1,0,none⟩),.pointer (some ⟨w.heap.size+1+1,0,none⟩),.int .i64 (k:Int),.pointer (some ⟨Bx,0,none⟩),.pointer p,.int .i64 i,.func (.func 148) #[] #[.pointer (some ⟨w.heap.size+1+1+1,0,none⟩),.pointer (some ⟨w.heap.size+1+1+1+1,0,none⟩)],.int .i64 (k:Int),aggE (entAt ss (k:Int)),undef,undef,undef,undef,undef],defers:=[] })
  (fun s k a' A B h hc=>by
   obtain⟨h1,Bx,h2,h3⟩:=h
   exact⟨⟨h1.1,hc.boxed h1.2.1,hc.boxed h1.2.2.1,hc.boxed h1.2.2.2.1,h1.2.2.2.2.trans (hc.below (by have:=HSZ.out;omega) h1.2.2.2.2.size)⟩,Bx,hc.block _ _ h2 (Or.inr rfl),h3⟩)
  ?assign ?body ?done ?stop
 case assign =>
  rintro l pre k W hI hsz _
  generalize entAt ss (k:Int)=x
  obtain⟨u,pa,xn,tg⟩:=x
  have HI:=ι hI
  clear hI
  gi_wp2
  have hb:=a0b (Below.refl W.heap.size W) (.cells #[.bool u,.int .i64 pa,.string xn,.int .i64 tg] 119)
  exact⟨⟨⟨HI.out.1,HI.out.2.1.alloc _,HI.out.2.2.1.alloc _,HI.out.2.2.2.1.alloc _,a0a HI.out.2.2.2.2 hb⟩,W.heap.size,a4o W ⟨u,pa,xn,tg⟩,rfl⟩,Turn.of_below hb⟩
 case body =>
  rintro l pre k a' W ⟨hI,Bx,hX,rfl⟩ hsz hsp
  have HI:=ι hI
  have HSP:=ι hsp
  have b0:=hI.2.1.cell
  have b1:=hI.2.2.1.cell
  have f1:=hI.2.2.1.frozen
  have b2:=hI.2.2.2.1.cell
  have f2:=hI.2.2.2.1.frozen
  have x2:=hX.cell2
  obtain⟨g,hg⟩:∃g,(entAt ss (k:Int)).name=g:=⟨_,rfl⟩
  have HG:=ι hg
  rw[hg] at x2
  generalize aggE (entAt ss (k:Int))=ax
  clear hI hsp hg hX
  by_cases ht:g=nm
  ·have HF:Hid (findO ss i nm=some k):=ι (b9o HSP.out HI.out.1 (HG.out.trans ht))
   have hgb:(g.toList == nm.toList)=true:=by rw[ht];simp
   clear ht
   gi_wp2
   have h5:=HSZ.out
   exact⟨⟨rfl,k,HF.out,(HI.out.2.2.1.set _).other (show w.heap.size+1≠w.heap.size+1+1 by omega) _,(HI.out.2.2.2.1.other (show w.heap.size+1+1≠w.heap.size+1 by omega) _).set _,(HI.out.2.2.2.2.setCell (p:=⟨w.heap.size+1,0,none⟩) (Nat.le_succ _) _).setCell (p:=⟨w.heap.size+1+1,0,none⟩) (by show w.heap.size≤w.heap.size+1+1;omega) _⟩,
    (Turn.of_touch (((dsk.Touch.refl _ W).setCell (S:=fun b=>b<W0.heap.size) ⟨w.heap.size+1,0,none⟩ (by show w.heap.size+1<W0.heap.size;omega) _).setCell ⟨w.heap.size+1+1,0,none⟩ (by show w.heap.size+1+1<W0.heap.size;omega) _)).mono fun _ _ h=>Or.inl h⟩
  ·have hgb:(g.toList == nm.toList)=false:=by
    rw[beq_eq_false_iff_ne]
    intro e
    exact ht (a8p e)
   have HNE:=ι ht
   clear ht
   gi_wp2
   refine⟨⟨fun j hj => ?_,HI.out.2⟩,Turn.refl _ W⟩
   rcases List.mem_append.1 hj with hj|hj
   ·exact HI.out.1 j hj
   ·rw[List.mem_singleton.1 hj,HG.out];exact HNE.out
 case done =>
  rintro D ys W hD rfl hI hK
  have HI:=ι hI
  have b1:=hI.2.2.1.cell
  have f1:=hI.2.2.1.frozen
  have b2:=hI.2.2.2.1.cell
  have f2:=hI.2.2.2.1.frozen
  clear hI
  gi_wp2
  have hb:=(HI.out.2.2.2.2.setCell (p:=⟨w.heap.size+1,0,none⟩) (Nat.le_succ _) (.int .i64 0)).setCell (p:=⟨w.heap.size+1+1,0,none⟩) (by show w.heap.size≤w.heap.size+1+1;omega) (.bool false)
  have k1:=(HI.out.2.2.1.set (.int .i64 0)).other (show w.heap.size+1≠w.heap.size+1+1 by omega) (.bool false)
  have k2:=(HI.out.2.2.2.1.other (show w.heap.size+1+1≠w.heap.size+1 by omega) (.int .i64 0)).set (.bool false)
  have hK':=((KeepsOthers.setCell W ⟨w.heap.size+1,0,none⟩ (.int .i64 0)).trans (KeepsOthers.setCell _ ⟨w.heap.size+1+1,0,none⟩ (.bool false))).same D _ hK rfl
  refine⟨by simp,.inl ⟨_,_,rfl,run_takeDeferred hK',?_⟩⟩
  have q1:=cell_kept k1.cell (grownBy_putObj' _ D (.deferred none)) (fun r e=>by cases e;exact⟨_,hK',rfl⟩)
  have q2:=cell_kept k2.cell (grownBy_putObj' _ D (.deferred none)) (fun r e=>by cases e;exact⟨_,hK',rfl⟩)
  refine⟨.tuple #[.int .i64 0,.bool false],by simp[results,Tryz.f56,go_sem,q1,q2],by rw[find_no HI.out.1];rfl,hb.grown (grownBy_putObj' _ D (.deferred none)) hb.size (fun k e=>by cases e;have:=HSZ.out;omega)⟩
 case stop =>
  rintro D c pre W hD hp ⟨rfl,k,hf,h1,h2,hb⟩ hK
  have HB:=ι hb
  have H1:=ι h1
  have H2:=ι h2
  have HF:=ι hf
  clear hb h1 h2 hf
  gi_wp2
  refine⟨by simp,.inl ⟨_,_,rfl,run_takeDeferred hK,?_⟩⟩
  have q1:=cell_kept H1.out.cell (grownBy_putObj' _ D (.deferred none)) (fun r e=>by cases e;exact⟨_,hK,rfl⟩)
  have q2:=cell_kept H2.out.cell (grownBy_putObj' _ D (.deferred none)) (fun r e=>by cases e;exact⟨_,hK,rfl⟩)
  refine⟨.tuple #[.int .i64 (k:Int),.bool true],by simp[results,Tryz.f56,go_sem,q1,q2],by rw[HF.out];rfl,HB.out.grown (grownBy_putObj' _ D (.deferred none)) HB.out.size (fun k e=>by cases e;have:=HSZ.out;omega)⟩
end lk
namespace lk
set_option maxRecDepth 100000
open Go.ChangeShapes Go.WideShapes Go.ChangeAt Go.RowKit
open rows
open sec
open ly
open al
def AtN(w:World)(g:Nat)(l:List Bool):Prop:=w.heap[g]? = some (.cells (boolsV l).toArray 257 (0,0))
theorem a1a(w:World)(l:List Bool):AtN (w.alloc (.cells (boolsV l).toArray 257)) w.heap.size l:=heap_alloc_new _ _
end lk
namespace lk
set_option maxRecDepth 100000
open Go.ChangeShapes Go.WideShapes Go.ChangeAt Go.RowKit
open rows
open sec
open ly
open rng
attribute [local go_sem] Oper.semAt_some
def entC(x:Ent):List Value:=[.bool x.used,.int .i64 x.parent,.string x.name,.int .i64 x.target]
end lk
namespace lk
set_option maxRecDepth 100000
open Go.ChangeShapes Go.WideShapes Go.ChangeAt Go.RowKit
open rows
open sec
open ly
open rng
attribute [local go_sem] Oper.semAt_some
theorem a3x{B0 B:Nat}{w w':World}{e:TypeId}{sz n:Nat}{v:Value}{cs:List Value}(h:rows.Own w B e sz v n cs)(k:rng.Calm B0 w w'):rows.Own w' B e sz v n cs:=by
 refine⟨h.1,?_⟩
 rcases h.2 with h2|⟨g,cap,cur,hv,h3,h4,h5⟩
 ·exact Or.inl h2
 ·exact Or.inr ⟨g,cap,cur,hv,h3,k.block g _ h4 (Or.inr rfl),h5⟩
theorem own_atR{w:World}{B:Nat}{e:TypeId}{sz n:Nat}{v:Value}{cs:List Value}(h:rows.Own w B e sz v n cs){k:Nat}(hk:v.ownBlock=some k):∃cur,w.heap[k]? = some (.cells cur e (0,0)):=by
 rcases h.2 with⟨rfl,_⟩|⟨g,cap,cur,rfl,h3,h4,_⟩
 ·simp[Value.ownBlock] at hk
 ·obtain rfl:g=k:=by simpa [Value.ownBlock] using hk
  exact⟨_,h4⟩
theorem a3q{Z:Nat→Prop}{W W':World}{B:Nat}{t:TypeId}{v:Value}(h:Go.Boxed W B t v)(ht:dsk.Touch Z W W')(hT:¬Z B):Go.Boxed W' B t v:=(ht.block B h.lt hT).trans h
end lk
namespace lk
set_option maxRecDepth 100000
open Go.ChangeShapes Go.WideShapes Go.ChangeAt Go.RowKit
open rows
open sec
open ly
open rng
attribute [local go_sem] Oper.semAt_some
structure Marks (B C:Nat) (Ds:List Nat) (w:World):Prop where
 nd:Ds.Nodup
 at_:∀D∈Ds,B≤D∧D<C∧w.heap[D]? = some (.deferred (some []))
def marksD(Ds:List Nat):List Deferred:=Ds.map fun D=>{ target := .collected D,args := #[] }
theorem Marks.calmS{soft:Obj→Prop}{B C C':Nat}{Ds:List Nat}{a b:World}(h:Marks B C Ds a)(hc:CalmS soft C' a b)(hC:C≤C'):Marks B C Ds b :=
 ⟨h.nd,fun D hD=>⟨(h.at_ D hD).1,(h.at_ D hD).2.1,hc.block D _ (h.at_ D hD).2.2 (Or.inl (Nat.lt_of_lt_of_le (h.at_ D hD).2.1 hC))⟩⟩
theorem Marks.later{B C:Nat}{Ds:List Nat}{a b:World}(h:Marks B C Ds a)(hb:Below a.heap.size a b):Marks B C Ds b :=
 ⟨h.nd,fun D hD=>⟨(h.at_ D hD).1,(h.at_ D hD).2.1,(hb.block D (Array.getElem?_eq_some_iff.1 (h.at_ D hD).2.2).1).trans (h.at_ D hD).2.2⟩⟩
theorem Marks.turn{B C:Nat}{Ds:List Nat}{a b:World}{m:Nat→Obj→Prop}(h:Marks B C Ds a)(hT:Turn m a b)(hm:∀k,B≤k→¬m k (.deferred (some []))):Marks B C Ds b :=
 ⟨h.nd,fun D hD=>⟨(h.at_ D hD).1,(h.at_ D hD).2.1,hT.keep D _ (h.at_ D hD).2.2 (hm D (h.at_ D hD).1)⟩⟩
theorem Marks.more{B C C':Nat}{Ds:List Nat}{a:World}(h:Marks B C Ds a){D:Nat}(h1:B≤D)(h2:C≤D)(h3:D<C')(h4:a.heap[D]? = some (.deferred (some []))):Marks B C' (D::Ds) a :=
 ⟨List.nodup_cons.2 ⟨fun hD=>by have:=(h.at_ D hD).2.1;omega,h.nd⟩,fun E hE=>by
  rcases List.mem_cons.1 hE with rfl|hE
  ·exact⟨h1,h3,h4⟩
  ·exact⟨(h.at_ E hE).1,by have:=(h.at_ E hE).2.1;omega,(h.at_ E hE).2.2⟩⟩
theorem a0k{F:Fence}{n:Nat}{P:Program}{fn:Func}{tmps:Array Value}{R:Ending→World→Prop}{B C:Nat}:∀(Ds:List Nat) (w:World),Marks B C Ds w →
  (∀w',rng.Calm B w w'→LeavesInM F n P fn tmps R [] .returning w')→LeavesInM F n P fn tmps R (marksD Ds) .returning w
 | [],w,_,h=>h w (rng.Calm.refl B w)
 | D::Ds,w,hM,h=>by
  have hD:=hM.at_ D List.mem_cons_self
  have hput:rng.Calm B w (w.putObj D (.deferred none)):=rng.Calm.putObj _ hD.1 hD.2.2 rfl
  refine⟨by simp,.inl ⟨_,_,rfl,run_takeDeferred hD.2.2,a0k (C:=C) Ds _ ⟨(List.nodup_cons.1 hM.nd).2,fun E hE => ?_⟩ fun w' hc=>h w' (hput.trans hc)⟩⟩
  have hE2:=hM.at_ E (List.mem_cons_of_mem _ hE)
  exact⟨hE2.1,hE2.2.1,(World.putObj_heap_other (by intro e;subst e;exact(List.nodup_cons.1 hM.nd).1 hE)).trans hE2.2.2⟩
end lk
end Go.Proofs.YtjedjkjhodgidaaGreatDoor
