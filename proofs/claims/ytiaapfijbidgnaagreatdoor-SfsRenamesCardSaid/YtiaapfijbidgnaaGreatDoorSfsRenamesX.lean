/- What SfsRenames wants, part 24. -/
import Derived.Test.YtiaapfijbidgnaaGreatDoorSfsRenamesB
import Derived.Test.YtiaapfijbidgnaaGreatDoorSfsRenamesT
import Derived.Test.YtiaapfijbidgnaaGreatDoorSfsRenamesW
set_option linter.unusedVariables false
set_option linter.unusedSimpArgs false
namespace Go.Proofs.YtiaapfijbidgnaaGreatDoor
namespace lk
set_option maxRecDepth 100000
open Go.ChangeShapes Go.WideShapes Go.ChangeAt Go.RowKit
open rows
open sec
open ly
open rng
attribute [local go_sem] Oper.semAt_some
theorem b5c{p:Nat→Bool}{k:Nat}{pre:List Nat}:∀{m:Nat},pre++[k] <+: those p m→k<m∧p k=true∧∀j,j<k→p j=true→j∈pre
 | 0,h=>by
  have:=h.length_le
  simp[those] at this
 | m+1,h=>by
  cases hp:p m with
  | false =>
   rw[b4y hp] at h
   obtain⟨h1,h2,h3⟩:=b5c h
   exact⟨by omega,h2,h3⟩
  | true =>
   rw[b1t hp,List.prefix_concat_iff] at h
   rcases h with h|h
   ·obtain⟨h1,h2⟩:=List.append_inj' h rfl
    obtain rfl:k=m:=by simpa using h2
    exact⟨by omega,hp,fun j hj hpj=>by rw[h1];exact those_mem.2 ⟨hj,hpj⟩⟩
   ·obtain⟨h1,h2,h3⟩:=b5c h
    exact⟨by omega,h2,h3⟩
theorem c1j(ss:List (List Int))(i:Int)(nm:ByteArray)(k:Nat):inB ss i nm k=(inDir ss i k && decide ((entAt ss (k:Int)).name=nm)):=rfl
def noName(ss:List (List Int))(nm:ByteArray)(l:List Nat):Prop:=∀k,k∈l→(entAt ss (k:Int)).name≠nm
theorem find_no{ss:List (List Int)}{i:Int}{nm:ByteArray}(h:noName ss nm (those (inDir ss i) 24)):findO ss i nm=none :=
 upto_none.2 fun j hj=>by
  rw[c1j]
  cases hd:inDir ss i j with
  | false=>rfl
  | true=>rw[decide_eq_false (h j (those_mem.2 ⟨hj,hd⟩))];rfl
theorem d4e{ss:List (List Int)}{i:Int}{nm:ByteArray}{k:Nat}{pre:List Nat}(hp:pre++[k] <+: those (inDir ss i) 24)(h:noName ss nm pre)(hk:(entAt ss (k:Int)).name=nm):findO ss i nm=some k:=by
 obtain⟨h1,h2,h3⟩:=b5c hp
 refine b6j (upto_none.2 fun j hj => ?_) (by rw[c1j,h2,decide_eq_true hk];rfl) 24 h1
 rw[c1j]
 cases hd:inDir ss i j with
 | false=>rfl
 | true=>rw[decide_eq_false (h j (h3 j hj hd))];rfl
set_option maxRecDepth 100000 in
set_option maxHeartbeats 2000000 in
theorem c3c(w:World)(d:Value)(ss:List (List Int))(i:Int)(nm:ByteArray)(h:Dk w d ss):Calls Tryz.prog 148 #[d,.int .i64 i,.string nm] w (Rt w (optV (findO ss i nm))):=by
 have HD:=ι h
 obtain⟨p,rfl⟩:=c3k h
 clear h
 have hB0:=a0a (a0a (a0a (a0a (a0a (Below.refl w.heap.size w) (.cells #[.string nm] 9)) (.cells #[.int .i64 0] 3)) (.cells #[.bool false] 4)) (.cells #[.pointer p] 26)) (.cells #[.int .i64 i] 3)
 have b0:=((((Go.Boxed.new w 9 (.string nm)).alloc (.cells #[.int .i64 0] 3)).alloc (.cells #[.bool false] 4)).alloc (.cells #[.pointer p] 26)).alloc (.cells #[.int .i64 i] 3)
 have b1:=(((Go.Boxed.new (w.alloc (.cells #[.string nm] 9)) 3 (.int .i64 0)).alloc (.cells #[.bool false] 4)).alloc (.cells #[.pointer p] 26)).alloc (.cells #[.int .i64 i] 3)
 have b2:=((Go.Boxed.new ((w.alloc (.cells #[.string nm] 9)).alloc (.cells #[.int .i64 0] 3)) 4 (.bool false)).alloc (.cells #[.pointer p] 26)).alloc (.cells #[.int .i64 i] 3)
 have b3:=(Go.Boxed.new (((w.alloc (.cells #[.string nm] 9)).alloc (.cells #[.int .i64 0] 3)).alloc (.cells #[.bool false] 4)) 26 (.pointer p)).alloc (.cells #[.int .i64 i] 3)
 have b4:=Go.Boxed.new ((((w.alloc (.cells #[.string nm] 9)).alloc (.cells #[.int .i64 0] 3)).alloc (.cells #[.bool false] 4)).alloc (.cells #[.pointer p] 26)) 3 (.int .i64 i)
 simp only[World.size_alloc] at b1 b2 b3 b4
 have hsz:(((((w.alloc (.cells #[.string nm] 9)).alloc (.cells #[.int .i64 0] 3)).alloc (.cells #[.bool false] 4)).alloc (.cells #[.pointer p] 26)).alloc (.cells #[.int .i64 i] 3)).heap.size=w.heap.size+5:=by simp[World.size_alloc]
 obtain⟨W0,hW0⟩:∃W0,((((w.alloc (.cells #[.string nm] 9)).alloc (.cells #[.int .i64 0] 3)).alloc (.cells #[.bool false] 4)).alloc (.cells #[.pointer p] 26)).alloc (.cells #[.int .i64 i] 3)=W0:=⟨_,rfl⟩
 rw[hW0] at hB0 b0 b1 b2 b3 b4 hsz
 have HB0:=ι hB0
 have B0:=ι b0
 have B1:=ι b1
 have B2:=ι b2
 have B3:=ι b3
 have B4:=ι b4
 have HSZ:=ι hsz
 clear hB0 b0 b1 b2 b3 b4 hsz
 refine(callsIn_wide (n:=10)).1 (callsIn_of_wp_marks Tryz.func148 rfl trivial ?_ rfl)
 simp only[Tryz.ntmps148,List.size_toArray,List.length_cons,List.length_nil,Nat.reduceAdd,Nat.reduceSub,Array.replicate_succ,Array.replicate_zero,List.push_toArray,List.append_toArray,List.nil_append,List.cons_append]
 gi_wp2_with (refine⟨trivial,?_⟩;gi_at_call 174;refine(callsIn_wide.2 (b2c _ _ _)).mono ?_;rintro e w2 ⟨rfl,rfl⟩)
 try rw[hW0]
 clear hW0
 refine a9a (gf:=207) (lb := #[.pointer (some ⟨w.heap.size+1+1+1,0,none⟩),.pointer (some ⟨w.heap.size+1+1+1+1,0,none⟩)]) rfl (enters_of Tryz.func207 (by kernel_rfl) rfl)
  (b4m w p ss HD.out i (w.heap.size+1+1+1) (w.heap.size+1+1+1+1) (fun b _=>b=W0.heap.size+1∨False) W0 HB0.out B3.out B4.out (fun b o hb=>by
   have:=HSZ.out
   rcases hb with hb|hb
   ·omega
   ·exact hb.elim) (fun o hb=>by
   have:=HSZ.out
   rcases hb with hb|hb
   ·omega
   ·exact hb.elim) (fun o hb=>by
   have:=HSZ.out
   rcases hb with hb|hb
   ·omega
   ·exact hb.elim)) (fun b o h=>h.elim) a9t (fun _=>rfl)
  (fun pre W=>noName ss nm pre∧Go.Boxed W w.heap.size 9 (.string nm)∧Go.Boxed W (w.heap.size+1) 3 (.int .i64 0)∧Go.Boxed W (w.heap.size+1+1) 4 (.bool false)∧Below w.heap.size w W)
  (fun c pre W=>c = .ret∧∃k:Nat,findO ss i nm=some k∧Go.Boxed W (w.heap.size+1) 3 (.int .i64 (k:Int))∧Go.Boxed W (w.heap.size+1+1) 4 (.bool true)∧Below w.heap.size w W)
  (fun s A B h hc=>⟨h.1,hc.boxed h.2.1,hc.boxed h.2.2.1,hc.boxed h.2.2.2.1,h.2.2.2.2.trans (hc.below (by have:=HSZ.out;omega) h.2.2.2.2.size)⟩)
  (fun c s A B h hc=>by
   obtain⟨h1,k,h2,h3,h4,h5⟩:=h
   exact⟨h1,k,h2,hc.boxed h3,hc.boxed h4,h5.trans (hc.below (by have:=HSZ.out;omega) h5.size)⟩)
  ⟨fun k hk=>(by cases hk),B0.out,B1.out,B2.out,HB0.out⟩
  (fun pre k a' W=>(noName ss nm pre∧Go.Boxed W w.heap.size 9 (.string nm)∧Go.Boxed W (w.heap.size+1) 3 (.int .i64 0)∧Go.Boxed W (w.heap.size+1+1) 4 (.bool false)∧Below w.heap.size w W)∧∃Bx,AtE W Bx (entAt ss (k:Int))∧a'={ tmps := #[.pointer p,.int .i64 i,.string nm,undef,undef,.pointer (some ⟨w.heap.size,0,none⟩),.pointer (some ⟨w.heap.size+1,0,none⟩),.pointer (some ⟨w.heap.size+1+1,0,none⟩),.int .i64 (k:Int),.pointer (some ⟨Bx,0,none⟩),.pointer p,.int .i64 i,.func (.func 207) #[] #[.pointer (some ⟨w.heap.size+1+1+1,0,none⟩),.pointer (some ⟨w.heap.size+1+1+1+1,0,none⟩)],.int .i64 (k:Int),aggE (entAt ss (k:Int)),undef,undef,undef,undef,undef],defers:=[] })
  (fun s k a' A B h hc=>by
   obtain⟨h1,Bx,h2,h3⟩:=h
   exact⟨⟨h1.1,hc.boxed h1.2.1,hc.boxed h1.2.2.1,hc.boxed h1.2.2.2.1,h1.2.2.2.2.trans (hc.below (by have:=HSZ.out;omega) h1.2.2.2.2.size)⟩,Bx,hc.block _ _ h2 (Or.inr rfl),h3⟩)
  ?assign ?body ?done ?stop
 case assign =>
  rintro l pre k W hI hsz _
  generalize entAt ss (k:Int)=x
  obtain⟨u,pa,xn,tg⟩:=x
  have HI:=ι hI
  clear hI
  gi_wp2
  have hb:=a0a (Below.refl W.heap.size W) (.cells #[.bool u,.int .i64 pa,.string xn,.int .i64 tg] 123)
  exact⟨⟨⟨HI.out.1,HI.out.2.1.alloc _,HI.out.2.2.1.alloc _,HI.out.2.2.2.1.alloc _,a0b HI.out.2.2.2.2 hb⟩,W.heap.size,a2f W ⟨u,pa,xn,tg⟩,rfl⟩,Turn.of_below hb⟩
 case body =>
  rintro l pre k a' W ⟨hI,Bx,hX,rfl⟩ hsz hsp
  have HI:=ι hI
  have HSP:=ι hsp
  have b0:=hI.2.1.cell
  have b1:=hI.2.2.1.cell
  have f1:=hI.2.2.1.frozen
  have b2:=hI.2.2.2.1.cell
  have f2:=hI.2.2.2.1.frozen
  have x2:=hX.cell2
  obtain⟨g,hg⟩:∃g,(entAt ss (k:Int)).name=g:=⟨_,rfl⟩
  have HG:=ι hg
  rw[hg] at x2
  generalize aggE (entAt ss (k:Int))=ax
  clear hI hsp hg hX
  by_cases ht:g=nm
  ·have HF:Hid (findO ss i nm=some k):=ι (d4e HSP.out HI.out.1 (HG.out.trans ht))
   have hgb:(g.toList == nm.toList)=true:=by rw[ht];simp
   clear ht
   gi_wp2
   have h5:=HSZ.out
   exact⟨⟨rfl,k,HF.out,(HI.out.2.2.1.set _).other (show w.heap.size+1≠w.heap.size+1+1 by omega) _,(HI.out.2.2.2.1.other (show w.heap.size+1+1≠w.heap.size+1 by omega) _).set _,(HI.out.2.2.2.2.setCell (p:=⟨w.heap.size+1,0,none⟩) (Nat.le_succ _) _).setCell (p:=⟨w.heap.size+1+1,0,none⟩) (by show w.heap.size≤w.heap.size+1+1;omega) _⟩,
    (Turn.of_touch (((dsk.Touch.refl _ W).setCell (S:=fun b=>b<W0.heap.size) ⟨w.heap.size+1,0,none⟩ (by show w.heap.size+1<W0.heap.size;omega) _).setCell ⟨w.heap.size+1+1,0,none⟩ (by show w.heap.size+1+1<W0.heap.size;omega) _)).mono fun _ _ h=>Or.inl h⟩
  ·have hgb:(g.toList == nm.toList)=false:=by
    rw[beq_eq_false_iff_ne]
    intro e
    exact ht (str_ext e)
   have HNE:=ι ht
   clear ht
   gi_wp2
   refine⟨⟨fun j hj => ?_,HI.out.2⟩,Turn.refl _ W⟩
   rcases List.mem_append.1 hj with hj|hj
   ·exact HI.out.1 j hj
   ·rw[List.mem_singleton.1 hj,HG.out];exact HNE.out
 case done =>
  rintro D ys W hD rfl hI hK
  have HI:=ι hI
  have b1:=hI.2.2.1.cell
  have f1:=hI.2.2.1.frozen
  have b2:=hI.2.2.2.1.cell
  have f2:=hI.2.2.2.1.frozen
  clear hI
  gi_wp2
  have hb:=(HI.out.2.2.2.2.setCell (p:=⟨w.heap.size+1,0,none⟩) (Nat.le_succ _) (.int .i64 0)).setCell (p:=⟨w.heap.size+1+1,0,none⟩) (by show w.heap.size≤w.heap.size+1+1;omega) (.bool false)
  have k1:=(HI.out.2.2.1.set (.int .i64 0)).other (show w.heap.size+1≠w.heap.size+1+1 by omega) (.bool false)
  have k2:=(HI.out.2.2.2.1.other (show w.heap.size+1+1≠w.heap.size+1 by omega) (.int .i64 0)).set (.bool false)
  have hK':=((KeepsOthers.setCell W ⟨w.heap.size+1,0,none⟩ (.int .i64 0)).trans (KeepsOthers.setCell _ ⟨w.heap.size+1+1,0,none⟩ (.bool false))).same D _ hK rfl
  refine⟨by simp,.inl ⟨_,_,rfl,run_takeDeferred hK',?_⟩⟩
  have q1:=cell_kept k1.cell (grownBy_putObj' _ D (.deferred none)) (fun r e=>by cases e;exact⟨_,hK',rfl⟩)
  have q2:=cell_kept k2.cell (grownBy_putObj' _ D (.deferred none)) (fun r e=>by cases e;exact⟨_,hK',rfl⟩)
  refine⟨.tuple #[.int .i64 0,.bool false],by simp[results,Tryz.f148,go_sem,q1,q2],by rw[find_no HI.out.1];rfl,hb.grown (grownBy_putObj' _ D (.deferred none)) hb.size (fun k e=>by cases e;have:=HSZ.out;omega)⟩
 case stop =>
  rintro D c pre W hD hp ⟨rfl,k,hf,h1,h2,hb⟩ hK
  have HB:=ι hb
  have H1:=ι h1
  have H2:=ι h2
  have HF:=ι hf
  clear hb h1 h2 hf
  gi_wp2
  refine⟨by simp,.inl ⟨_,_,rfl,run_takeDeferred hK,?_⟩⟩
  have q1:=cell_kept H1.out.cell (grownBy_putObj' _ D (.deferred none)) (fun r e=>by cases e;exact⟨_,hK,rfl⟩)
  have q2:=cell_kept H2.out.cell (grownBy_putObj' _ D (.deferred none)) (fun r e=>by cases e;exact⟨_,hK,rfl⟩)
  refine⟨.tuple #[.int .i64 (k:Int),.bool true],by simp[results,Tryz.f148,go_sem,q1,q2],by rw[HF.out];rfl,HB.out.grown (grownBy_putObj' _ D (.deferred none)) HB.out.size (fun k e=>by cases e;have:=HSZ.out;omega)⟩
end lk
end Go.Proofs.YtiaapfijbidgnaaGreatDoor
