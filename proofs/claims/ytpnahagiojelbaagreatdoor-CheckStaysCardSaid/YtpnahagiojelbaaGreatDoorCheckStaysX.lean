/- What CheckStays wants, part 24. -/
import Derived.Test.YtpnahagiojelbaaGreatDoorCheckStaysB
import Derived.Test.YtpnahagiojelbaaGreatDoorCheckStaysC
import Derived.Test.YtpnahagiojelbaaGreatDoorCheckStaysQ
import Derived.Test.YtpnahagiojelbaaGreatDoorCheckStaysR
import Derived.Test.YtpnahagiojelbaaGreatDoorCheckStaysS
import Derived.Test.YtpnahagiojelbaaGreatDoorCheckStaysT
import Derived.Test.YtpnahagiojelbaaGreatDoorCheckStaysV
import Derived.Test.YtpnahagiojelbaaGreatDoorCheckStaysW
set_option linter.unusedVariables false
set_option linter.unusedSimpArgs false
namespace Go.Proofs.YtpnahagiojelbaaGreatDoor
namespace lk
set_option maxRecDepth 100000
open Go.ChangeShapes Go.WideShapes Go.ChangeAt Go.RowKit
open rows
open sec
open ly
open rng
attribute [local go_sem] Oper.semAt_some
theorem b5c{p:Nat→Bool}{k:Nat}{pre:List Nat}:∀{m:Nat},pre++[k] <+: those p m→k<m∧p k=true∧∀j,j<k→p j=true→j∈pre
 | 0,h=>by
  have:=h.length_le
  simp[those] at this
 | m+1,h=>by
  cases hp:p m with
  | false =>
   rw[a4z hp] at h
   obtain⟨h1,h2,h3⟩:=b5c h
   exact⟨by omega,h2,h3⟩
  | true =>
   rw[a3y hp,List.prefix_concat_iff] at h
   rcases h with h|h
   ·obtain⟨h1,h2⟩:=List.append_inj' h rfl
    obtain rfl:k=m:=by simpa using h2
    exact⟨by omega,hp,fun j hj hpj=>by rw[h1];exact those_mem.2 ⟨hj,hpj⟩⟩
   ·obtain⟨h1,h2,h3⟩:=b5c h
    exact⟨by omega,h2,h3⟩
theorem b9p(ss:List (List Int))(i:Int)(nm:ByteArray)(k:Nat):inB ss i nm k=(inDir ss i k && decide ((entAt ss (k:Int)).name=nm)):=rfl
def noName(ss:List (List Int))(nm:ByteArray)(l:List Nat):Prop:=∀k,k∈l→(entAt ss (k:Int)).name≠nm
theorem find_no{ss:List (List Int)}{i:Int}{nm:ByteArray}(h:noName ss nm (those (inDir ss i) 24)):findO ss i nm=none :=
 upto_none.2 fun j hj=>by
  rw[b9p]
  cases hd:inDir ss i j with
  | false=>rfl
  | true=>rw[decide_eq_false (h j (those_mem.2 ⟨hj,hd⟩))];rfl
theorem d2d{ss:List (List Int)}{i:Int}{nm:ByteArray}{k:Nat}{pre:List Nat}(hp:pre++[k] <+: those (inDir ss i) 24)(h:noName ss nm pre)(hk:(entAt ss (k:Int)).name=nm):findO ss i nm=some k:=by
 obtain⟨h1,h2,h3⟩:=b5c hp
 refine b5b (upto_none.2 fun j hj => ?_) (by rw[b9p,h2,decide_eq_true hk];rfl) 24 h1
 rw[b9p]
 cases hd:inDir ss i j with
 | false=>rfl
 | true=>rw[decide_eq_false (h j (h3 j hj hd))];rfl
set_option maxRecDepth 100000 in
set_option maxHeartbeats 2000000 in
theorem c1m(w:World)(d:Value)(ss:List (List Int))(i:Int)(nm:ByteArray)(h:Dk w d ss):Calls Tryz.prog 134 #[d,.int .i64 i,.string nm] w (Rt w (optV (findO ss i nm))):=by
 have HD:=ι h
 obtain⟨p,rfl⟩:=a9l h
 clear h
 have hB0:=a0a (a0a (a0a (a0a (a0a (Below.refl w.heap.size w) (.cells #[.string nm] 9)) (.cells #[.int .i64 0] 3)) (.cells #[.bool false] 4)) (.cells #[.pointer p] 45)) (.cells #[.int .i64 i] 3)
 have b0:=((((Go.Boxed.new w 9 (.string nm)).alloc (.cells #[.int .i64 0] 3)).alloc (.cells #[.bool false] 4)).alloc (.cells #[.pointer p] 45)).alloc (.cells #[.int .i64 i] 3)
 have b1:=(((Go.Boxed.new (w.alloc (.cells #[.string nm] 9)) 3 (.int .i64 0)).alloc (.cells #[.bool false] 4)).alloc (.cells #[.pointer p] 45)).alloc (.cells #[.int .i64 i] 3)
 have b2:=((Go.Boxed.new ((w.alloc (.cells #[.string nm] 9)).alloc (.cells #[.int .i64 0] 3)) 4 (.bool false)).alloc (.cells #[.pointer p] 45)).alloc (.cells #[.int .i64 i] 3)
 have b3:=(Go.Boxed.new (((w.alloc (.cells #[.string nm] 9)).alloc (.cells #[.int .i64 0] 3)).alloc (.cells #[.bool false] 4)) 45 (.pointer p)).alloc (.cells #[.int .i64 i] 3)
 have b4:=Go.Boxed.new ((((w.alloc (.cells #[.string nm] 9)).alloc (.cells #[.int .i64 0] 3)).alloc (.cells #[.bool false] 4)).alloc (.cells #[.pointer p] 45)) 3 (.int .i64 i)
 simp only[World.size_alloc] at b1 b2 b3 b4
 have hsz:(((((w.alloc (.cells #[.string nm] 9)).alloc (.cells #[.int .i64 0] 3)).alloc (.cells #[.bool false] 4)).alloc (.cells #[.pointer p] 45)).alloc (.cells #[.int .i64 i] 3)).heap.size=w.heap.size+5:=by simp[World.size_alloc]
 obtain⟨W0,hW0⟩:∃W0,((((w.alloc (.cells #[.string nm] 9)).alloc (.cells #[.int .i64 0] 3)).alloc (.cells #[.bool false] 4)).alloc (.cells #[.pointer p] 45)).alloc (.cells #[.int .i64 i] 3)=W0:=⟨_,rfl⟩
 rw[hW0] at hB0 b0 b1 b2 b3 b4 hsz
 have HB0:=ι hB0
 have B0:=ι b0
 have B1:=ι b1
 have B2:=ι b2
 have B3:=ι b3
 have B4:=ι b4
 have HSZ:=ι hsz
 clear hB0 b0 b1 b2 b3 b4 hsz
 refine(callsIn_wide (n:=10)).1 (callsIn_of_wp_marks Tryz.func134 rfl trivial ?_ rfl)
 simp only[Tryz.ntmps134,List.size_toArray,List.length_cons,List.length_nil,Nat.reduceAdd,Nat.reduceSub,Array.replicate_succ,Array.replicate_zero,List.push_toArray,List.append_toArray,List.nil_append,List.cons_append]
 gi_wp2_with (refine⟨trivial,?_⟩;gi_at_call 174;refine(callsIn_wide.2 (b1h _ _ _)).mono ?_;rintro e w2 ⟨rfl,rfl⟩)
 try rw[hW0]
 clear hW0
 refine a1w (gf:=207) (lb := #[.pointer (some ⟨w.heap.size+1+1+1,0,none⟩),.pointer (some ⟨w.heap.size+1+1+1+1,0,none⟩)]) rfl (enters_of Tryz.func207 (by kernel_rfl) rfl)
  (b3u w p ss HD.out i (w.heap.size+1+1+1) (w.heap.size+1+1+1+1) (fun b _=>b=W0.heap.size+1∨False) W0 HB0.out B3.out B4.out (fun b o hb=>by
   have:=HSZ.out
   rcases hb with hb|hb
   ·omega
   ·exact hb.elim) (fun o hb=>by
   have:=HSZ.out
   rcases hb with hb|hb
   ·omega
   ·exact hb.elim) (fun o hb=>by
   have:=HSZ.out
   rcases hb with hb|hb
   ·omega
   ·exact hb.elim)) (fun b o h=>h.elim) a6k (fun _=>rfl)
  (fun pre W=>noName ss nm pre∧Go.Boxed W w.heap.size 9 (.string nm)∧Go.Boxed W (w.heap.size+1) 3 (.int .i64 0)∧Go.Boxed W (w.heap.size+1+1) 4 (.bool false)∧Below w.heap.size w W)
  (fun c pre W=>c = .ret∧∃k:Nat,findO ss i nm=some k∧Go.Boxed W (w.heap.size+1) 3 (.int .i64 (k:Int))∧Go.Boxed W (w.heap.size+1+1) 4 (.bool true)∧Below w.heap.size w W)
  (fun s A B h hc=>⟨h.1,hc.boxed h.2.1,hc.boxed h.2.2.1,hc.boxed h.2.2.2.1,h.2.2.2.2.trans (hc.below (by have:=HSZ.out;omega) h.2.2.2.2.size)⟩)
  (fun c s A B h hc=>by
   obtain⟨h1,k,h2,h3,h4,h5⟩:=h
   exact⟨h1,k,h2,hc.boxed h3,hc.boxed h4,h5.trans (hc.below (by have:=HSZ.out;omega) h5.size)⟩)
  ⟨fun k hk=>(by cases hk),B0.out,B1.out,B2.out,HB0.out⟩
  (fun pre k a' W=>(noName ss nm pre∧Go.Boxed W w.heap.size 9 (.string nm)∧Go.Boxed W (w.heap.size+1) 3 (.int .i64 0)∧Go.Boxed W (w.heap.size+1+1) 4 (.bool false)∧Below w.heap.size w W)∧∃Bx,AtE W Bx (entAt ss (k:Int))∧a'={ tmps := #[.pointer p,.int .i64 i,.string nm,undef,undef,.pointer (some ⟨w.heap.size,0,none⟩),.pointer (some ⟨w.heap.size+1,0,none⟩),.pointer (some ⟨w.heap.size+1+1,0,none⟩),.int .i64 (k:Int),.pointer (some ⟨Bx,0,none⟩),.pointer p,.int .i64 i,.func (.func 207) #[] #[.pointer (some ⟨w.heap.size+1+1+1,0,none⟩),.pointer (some ⟨w.heap.size+1+1+1+1,0,none⟩)],.int .i64 (k:Int),aggE (entAt ss (k:Int)),undef,undef,undef,undef,undef],defers:=[] })
  (fun s k a' A B h hc=>by
   obtain⟨h1,Bx,h2,h3⟩:=h
   exact⟨⟨h1.1,hc.boxed h1.2.1,hc.boxed h1.2.2.1,hc.boxed h1.2.2.2.1,h1.2.2.2.2.trans (hc.below (by have:=HSZ.out;omega) h1.2.2.2.2.size)⟩,Bx,hc.block _ _ h2 (Or.inr rfl),h3⟩)
  ?assign ?body ?done ?stop
 case assign =>
  rintro l pre k W hI hsz _
  generalize entAt ss (k:Int)=x
  obtain⟨u,pa,xn,tg⟩:=x
  have HI:=ι hI
  clear hI
  gi_wp2
  have hb:=a0a (Below.refl W.heap.size W) (.cells #[.bool u,.int .i64 pa,.string xn,.int .i64 tg] 170)
  exact⟨⟨⟨HI.out.1,HI.out.2.1.alloc _,HI.out.2.2.1.alloc _,HI.out.2.2.2.1.alloc _,a0b HI.out.2.2.2.2 hb⟩,W.heap.size,a2t W ⟨u,pa,xn,tg⟩,rfl⟩,Turn.of_below hb⟩
 case body =>
  rintro l pre k a' W ⟨hI,Bx,hX,rfl⟩ hsz hsp
  have HI:=ι hI
  have HSP:=ι hsp
  have b0:=hI.2.1.cell
  have b1:=hI.2.2.1.cell
  have f1:=hI.2.2.1.frozen
  have b2:=hI.2.2.2.1.cell
  have f2:=hI.2.2.2.1.frozen
  have x2:=hX.cell2
  obtain⟨g,hg⟩:∃g,(entAt ss (k:Int)).name=g:=⟨_,rfl⟩
  have HG:=ι hg
  rw[hg] at x2
  generalize aggE (entAt ss (k:Int))=ax
  clear hI hsp hg hX
  by_cases ht:g=nm
  ·have HF:Hid (findO ss i nm=some k):=ι (d2d HSP.out HI.out.1 (HG.out.trans ht))
   have hgb:(g.toList == nm.toList)=true:=by rw[ht];simp
   clear ht
   gi_wp2
   have h5:=HSZ.out
   exact⟨⟨rfl,k,HF.out,(HI.out.2.2.1.set _).other (show w.heap.size+1≠w.heap.size+1+1 by omega) _,(HI.out.2.2.2.1.other (show w.heap.size+1+1≠w.heap.size+1 by omega) _).set _,(HI.out.2.2.2.2.setCell (p:=⟨w.heap.size+1,0,none⟩) (Nat.le_succ _) _).setCell (p:=⟨w.heap.size+1+1,0,none⟩) (by show w.heap.size≤w.heap.size+1+1;omega) _⟩,
    (Turn.of_touch (((dsk.Touch.refl _ W).setCell (S:=fun b=>b<W0.heap.size) ⟨w.heap.size+1,0,none⟩ (by show w.heap.size+1<W0.heap.size;omega) _).setCell ⟨w.heap.size+1+1,0,none⟩ (by show w.heap.size+1+1<W0.heap.size;omega) _)).mono fun _ _ h=>Or.inl h⟩
  ·have hgb:(g.toList == nm.toList)=false:=by
    rw[beq_eq_false_iff_ne]
    intro e
    exact ht (str_ext e)
   have HNE:=ι ht
   clear ht
   gi_wp2
   refine⟨⟨fun j hj => ?_,HI.out.2⟩,Turn.refl _ W⟩
   rcases List.mem_append.1 hj with hj|hj
   ·exact HI.out.1 j hj
   ·rw[List.mem_singleton.1 hj,HG.out];exact HNE.out
 case done =>
  rintro D ys W hD rfl hI hK
  have HI:=ι hI
  have b1:=hI.2.2.1.cell
  have f1:=hI.2.2.1.frozen
  have b2:=hI.2.2.2.1.cell
  have f2:=hI.2.2.2.1.frozen
  clear hI
  gi_wp2
  have hb:=(HI.out.2.2.2.2.setCell (p:=⟨w.heap.size+1,0,none⟩) (Nat.le_succ _) (.int .i64 0)).setCell (p:=⟨w.heap.size+1+1,0,none⟩) (by show w.heap.size≤w.heap.size+1+1;omega) (.bool false)
  have k1:=(HI.out.2.2.1.set (.int .i64 0)).other (show w.heap.size+1≠w.heap.size+1+1 by omega) (.bool false)
  have k2:=(HI.out.2.2.2.1.other (show w.heap.size+1+1≠w.heap.size+1 by omega) (.int .i64 0)).set (.bool false)
  have hK':=((KeepsOthers.setCell W ⟨w.heap.size+1,0,none⟩ (.int .i64 0)).trans (KeepsOthers.setCell _ ⟨w.heap.size+1+1,0,none⟩ (.bool false))).same D _ hK rfl
  refine⟨by simp,.inl ⟨_,_,rfl,run_takeDeferred hK',?_⟩⟩
  have q1:=cell_kept k1.cell (grownBy_putObj' _ D (.deferred none)) (fun r e=>by cases e;exact⟨_,hK',rfl⟩)
  have q2:=cell_kept k2.cell (grownBy_putObj' _ D (.deferred none)) (fun r e=>by cases e;exact⟨_,hK',rfl⟩)
  refine⟨.tuple #[.int .i64 0,.bool false],by simp[results,Tryz.f134,go_sem,q1,q2],by rw[find_no HI.out.1];rfl,hb.grown (grownBy_putObj' _ D (.deferred none)) hb.size (fun k e=>by cases e;have:=HSZ.out;omega)⟩
 case stop =>
  rintro D c pre W hD hp ⟨rfl,k,hf,h1,h2,hb⟩ hK
  have HB:=ι hb
  have H1:=ι h1
  have H2:=ι h2
  have HF:=ι hf
  clear hb h1 h2 hf
  gi_wp2
  refine⟨by simp,.inl ⟨_,_,rfl,run_takeDeferred hK,?_⟩⟩
  have q1:=cell_kept H1.out.cell (grownBy_putObj' _ D (.deferred none)) (fun r e=>by cases e;exact⟨_,hK,rfl⟩)
  have q2:=cell_kept H2.out.cell (grownBy_putObj' _ D (.deferred none)) (fun r e=>by cases e;exact⟨_,hK,rfl⟩)
  refine⟨.tuple #[.int .i64 (k:Int),.bool true],by simp[results,Tryz.f134,go_sem,q1,q2],by rw[HF.out];rfl,HB.out.grown (grownBy_putObj' _ D (.deferred none)) HB.out.size (fun k e=>by cases e;have:=HSZ.out;omega)⟩
end lk
namespace lk
set_option maxRecDepth 100000
open rows
open sec
open ly
open fs (a1b)
def kindAt(ss:List (List Int))(n:Int):Int:=(inoAt ss n).kind
def linkB(ss:List (List Int))(k:Nat):Bool:=(entAt ss (k:Int)).used && (decide (kindAt ss (entAt ss (k:Int)).parent=2) && !decide (kindAt ss (entAt ss (k:Int)).target=0))
inductive Reach (ss:List (List Int)):Int→Prop
 | root:Reach ss 0
 | step (k:Nat) (hk:k<24) (hl:linkB ss k=true) (hp:Reach ss (entAt ss (k:Int)).parent):Reach ss (entAt ss (k:Int)).target
theorem a2c{ss:List (List Int)}{k:Nat}(h:linkB ss k=true):(entAt ss (k:Int)).used=true:=by
 rw[linkB,Bool.and_eq_true] at h;exact h.1
theorem b5d{ss:List (List Int)}{n:Int}(h:Reach ss n):0≤n∧n<16:=by
 cases h with
 | root=>omega
 | step k hk hl hp=>have:=a1b (a2c hl);omega
def rstep(ss:List (List Int))(s:List Bool)(k:Nat):List Bool:=if linkB ss k && s.getD (entAt ss (k:Int)).parent.toNat false then s.set (entAt ss (k:Int)).target.toNat true else s
def rsteps(ss:List (List Int))(s:List Bool):Nat→List Bool
 | 0=>s
 | k+1=>rstep ss (rsteps ss s k) k
def in0:List Bool:=true::List.replicate 15 false
def rrounds(ss:List (List Int)):Nat→List Bool
 | 0=>in0
 | n+1=>rsteps ss (rrounds ss n) 24
def reachL(ss:List (List Int)):List Bool:=rrounds ss 16
def reachB(ss:List (List Int))(n:Int):Bool:=(reachL ss).getD n.toNat false
theorem d1d(ss:List (List Int))(s:List Bool)(k:Nat):(rstep ss s k).length=s.length:=by
 unfold rstep;split<;>simp
theorem a8v(ss:List (List Int))(s:List Bool):∀k,(rsteps ss s k).length=s.length
 | 0=>rfl
 | k+1=>by rw[rsteps,d1d,a8v ss s k]
theorem a4x(ss:List (List Int)):∀n,(rrounds ss n).length=16
 | 0=>rfl
 | n+1=>by rw[rrounds,a8v,a4x ss n]
theorem d3f{s:List Bool}{i n:Nat}(h:s.getD n false=true):(s.set i true).getD n false=true:=by
 rw[List.getD,List.getElem?_set]
 by_cases e:i=n
 ·subst e
  have hl:i<s.length:=by
   apply Classical.byContradiction;intro hl
   rw[List.getD,List.getElem?_eq_none (by omega)] at h;cases h
  rw[if_pos rfl,if_pos hl];rfl
 ·rw[if_neg e];exact h
theorem d5c{s:List Bool}{i:Nat}(h:i<s.length):(s.set i true).getD i false=true:=by
 rw[List.getD,List.getElem?_set,if_pos rfl,if_pos h];rfl
theorem set_or{s:List Bool}{i n:Nat}(h:(s.set i true).getD n false=true):s.getD n false=true∨n=i:=by
 by_cases e:i=n
 ·exact Or.inr e.symm
 ·rw[List.getD,List.getElem?_set,if_neg e] at h;exact Or.inl h
theorem d3k(ss:List (List Int)){s:List Bool}{k n:Nat}(h:s.getD n false=true):(rstep ss s k).getD n false=true:=by
 unfold rstep;split
 ·exact d3f h
 ·exact h
theorem a5x(ss:List (List Int)){s:List Bool}{n:Nat}:∀{j k:Nat},j≤k→(rsteps ss s j).getD n false=true→(rsteps ss s k).getD n false=true
 | j,0,hj,h=>by
  obtain rfl:j=0:=by omega
  exact h
 | j,k+1,hj,h=>by
  by_cases e:j=k+1
  ·subst e;exact h
  ·exact d3k ss (a5x ss (show j≤k by omega) h)
theorem b9k{ss:List (List Int)}{s:List Bool}{k n:Nat}(hk:k<24)(hs:∀n,s.getD n false=true→Reach ss (n:Int))(h:(rstep ss s k).getD n false=true):Reach ss (n:Int):=by
 unfold rstep at h;split at h
 ·rename_i hc
  rw[Bool.and_eq_true] at hc
  rcases set_or h with h|rfl
  ·exact hs n h
  ·have hu:=a1b (a2c hc.1)
   have hp:=hs _ hc.2
   rw[show (((entAt ss (k:Int)).parent.toNat:Nat):Int)=(entAt ss (k:Int)).parent by omega] at hp
   rw[show (((entAt ss (k:Int)).target.toNat:Nat):Int)=(entAt ss (k:Int)).target by omega]
   exact .step k hk hc.1 hp
 ·exact hs n h
theorem a9n{ss:List (List Int)}{s:List Bool}(hs:∀n:Nat,s.getD n false=true→Reach ss (n:Int)):∀k,k≤24→∀n:Nat,(rsteps ss s k).getD n false=true→Reach ss (n:Int)
 | 0,_=>hs
 | k+1,hk=>fun n h=>b9k (by omega) (a9n hs k (by omega)) h
theorem in0_at{n:Nat}(h:in0.getD n false=true):n=0:=by
 match n with
 | 0=>rfl
 | n+1 =>
  rw[in0,List.getD,List.getElem?_cons_succ,List.getElem?_replicate] at h
  split at h<;>cases h
theorem a8g(ss:List (List Int)):∀m n:Nat,(rrounds ss m).getD n false=true→Reach ss (n:Int)
 | 0,n,h=>by rw[in0_at h];exact .root
 | m+1,n,h=>a9n (a8g ss m) 24 (Nat.le_refl _) n h
def closedL(ss:List (List Int))(s:List Bool):Prop:=∀k,k<24→linkB ss k=true→s.getD (entAt ss (k:Int)).parent.toNat false=true→s.getD (entAt ss (k:Int)).target.toNat false=true
theorem a7j{ss:List (List Int)}{s:List Bool}(hc:closedL ss s)(hl:s.length=16):∀k,k≤24→rsteps ss s k=s
 | 0,_=>rfl
 | k+1,hk=>by
  rw[rsteps,a7j hc hl k (by omega)]
  unfold rstep;split
  ·rename_i h
   rw[Bool.and_eq_true] at h
   have ht:=hc k (by omega) h.1 h.2
   have hu:=a1b (a2c h.1)
   generalize (entAt ss (k:Int)).target.toNat=i at *
   refine List.ext_getElem (by simp) fun j h1 h2 => ?_
   rw[List.getElem_set]
   split
   ·rename_i e;subst e
    rw[List.getD,List.getElem?_eq_getElem h2] at ht
    exact ht.symm
   ·rfl
  ·rfl
theorem d0o{ss:List (List Int)}{s:List Bool}(hl:s.length=16)(h:∀n,n<16→(rsteps ss s 24).getD n false=true→s.getD n false=true):closedL ss s:=by
 intro k hk hlk hp
 have hu:=a1b (a2c hlk)
 refine h _ (by omega) (a5x ss (show k+1≤24 by omega) ?_)
 rw[rsteps,rstep,if_pos (by rw[hlk,Bool.true_and];exact a5x ss (j:=0) (Nat.zero_le _) hp)]
 exact d5c (by rw[a8v,hl];omega)
theorem a9t(ss:List (List Int)):∀m,closedL ss (rrounds ss m)∨m<cntU (fun n=>(rrounds ss m).getD n false) 16
 | 0=>Or.inr (show 0<cntU (fun n=>in0.getD n false) 16 by decide)
 | m+1=>by
  rcases a9t ss m with h|h
  ·exact Or.inl (by rw[rrounds,a7j h (a4x ss m) 24 (Nat.le_refl _)];exact h)
  ·by_cases hc:∀n,n<16→(rsteps ss (rrounds ss m) 24).getD n false=true→(rrounds ss m).getD n false=true
   ·have hcl:=d0o (a4x ss m) hc
    exact Or.inl (by rw[rrounds,a7j hcl (a4x ss m) 24 (Nat.le_refl _)];exact hcl)
   ·refine Or.inr (Nat.lt_of_le_of_lt (show m+1≤cntU (fun n=>(rrounds ss m).getD n false) 16 from h) (b8r (fun i _ hi=>a5x ss (j:=0) (Nat.zero_le _) hi) ?_))
    apply Classical.byContradiction;intro hno
    refine hc fun n hn h1 => ?_
    cases hb:(rrounds ss m).getD n false with
    | true=>rfl
    | false=>exact absurd ⟨n,hn,h1,hb⟩ hno
theorem b5v(ss:List (List Int)):closedL ss (reachL ss):=by
 rcases a9t ss 16 with h|h
 ·exact h
 ·have:=c0l (fun n=>(rrounds ss 16).getD n false) 16
  omega
theorem a9r(ss:List (List Int)):∀m,(rrounds ss m).getD 0 false=true
 | 0=>rfl
 | m+1=>a5x ss (j:=0) (Nat.zero_le _) (a9r ss m)
theorem b2v{ss:List (List Int)}{n:Int}(h:Reach ss n):reachB ss n=true:=by
 induction h with
 | root=>exact a9r ss 16
 | step k hk hl hp ih=>exact b5v ss k hk hl ih
theorem a6v{ss:List (List Int)}{n:Int}(h0:0≤n):reachB ss n=true↔Reach ss n :=
 ⟨fun h=>by have:=a8g ss 16 n.toNat h;rwa [show ((n.toNat:Nat):Int)=n by omega] at this,b2v⟩
def reachN(ss:List (List Int)):List Nat:=those (fun n=>reachB ss (n:Int)) 16
theorem b0c(p:Nat→Bool)(m:Nat):(those p m).length≤m:=by
 have:=List.length_filter_le p (List.range m)
 rwa [List.length_range] at this
def oddB(ss:List (List Int))(k:Nat):Bool := !entOfB (secAt ss (17+(k:Int)))
def dangB(ss:List (List Int))(k:Nat):Bool:=(entAt ss (k:Int)).used && decide (kindAt ss (entAt ss (k:Int)).target=0)
def lostB(ss:List (List Int))(k:Nat):Bool:=(entAt ss (k:Int)).used && (!reachB ss (entAt ss (k:Int)).parent || !decide (kindAt ss (entAt ss (k:Int)).parent=2))
def sameD(ss:List (List Int))(k j:Nat):Bool:=decide ((entAt ss (j:Int)).parent=(entAt ss (k:Int)).parent) && decide ((entAt ss (j:Int)).name=(entAt ss (k:Int)).name)
def sameL(ss:List (List Int))(k j:Nat):Bool:=decide ((entAt ss (j:Int)).target=(entAt ss (k:Int)).target)
def lowB(ss:List (List Int))(r:Nat→Nat→Bool)(k:Nat):Bool:=(entAt ss (k:Int)).used && (List.range k).any fun j=>(entAt ss (j:Int)).used && r k j
def dblB(ss:List (List Int)):Nat→Bool:=lowB ss (sameD ss)
def lnkB(ss:List (List Int)):Nat→Bool:=lowB ss (sameL ss)
def cntL(b:Int)(l:List Int):Nat:=(l.filter fun x=>decide (x=b)).length
def ownC(ss:List (List Int))(b:Nat):Nat→Nat
 | 0=>0
 | n+1=>ownC ss b n+if takenB ss (n:Int) then cntL (b:Int) (inoAt ss (n:Int)).b else 0
def shrB(ss:List (List Int))(b:Nat):Bool:=decide (1≤b) && decide (1<ownC ss b 16)
def pB(ss:List (List Int)):Nat→Nat→Bool
 | 0=>oddB ss
 | 1=>dangB ss
 | 2=>lostB ss
 | 3=>dblB ss
 | 4=>lnkB ss
 | _=>shrB ss
def pLim(i:Nat):Nat:=if i<5 then 24 else 25
def probK(ss:List (List Int))(i m:Nat):List (Nat×Nat):=(those (pB ss i) m).map fun n=>(i+1,n)
def probsU(ss:List (List Int)):Nat→List (Nat×Nat)
 | 0=>[]
 | i+1=>probsU ss i++probK ss i (pLim i)
def probs(ss:List (List Int)):List (Nat×Nat):=probsU ss 6
def cleanB(ss:List (List Int)):Bool:=(probs ss).isEmpty
end lk
namespace lk
set_option maxRecDepth 100000
open rows
open sec
open ly
open fs
structure CI (ss:List (List Int)):Prop where
 fit:Fit ss
 blk:Blk ss
 even:∀k:Nat,k<24→oddB ss k=false
 way:∀k:Nat,k<24→(entAt ss (k:Int)).used=true→Reach ss (entAt ss (k:Int)).parent∧kindAt ss (entAt ss (k:Int)).parent=2
theorem probs_none{ss:List (List Int)}:cleanB ss=true↔∀i n,i<6→n<pLim i→pB ss i n=false:=by
 have key:∀m,(probsU ss m=[]↔∀i n,i<m→n<pLim i→pB ss i n=false):=by
  intro m
  induction m with
  | zero=>exact⟨fun _ i n h=>by omega,fun _=>rfl⟩
  | succ m ih =>
   rw[probsU,List.append_eq_nil_iff,ih,probK,List.map_eq_nil_iff,those,List.filter_eq_nil_iff]
   constructor
   ·rintro⟨h1,h2⟩ i n hi hn
    by_cases e:i=m
    ·subst e
     have:=h2 n (List.mem_range.2 hn)
     simpa using this
    ·exact h1 i n (by omega) hn
   ·intro h
    exact⟨fun i n hi hn=>h i n (by omega) hn,fun n hn=>by rw[h m n (by omega) (List.mem_range.1 hn)];simp⟩
 rw[cleanB,List.isEmpty_iff]
 exact key 6
theorem b6c{ss:List (List Int)}{r:Nat→Nat→Bool}(h:∀k,k<24→lowB ss r k=false){j k:Nat}(hjk:j<k)(hk:k<24)(hu:(entAt ss (k:Int)).used=true)(hv:(entAt ss (j:Int)).used=true):r k j=false:=by
 have h2:=h k hk
 rw[lowB,hu,Bool.true_and] at h2
 have h3:=List.any_eq_false.1 h2 j (List.mem_range.2 hjk)
 rw[hv,Bool.true_and] at h3
 simpa using h3
theorem d5f{ss:List (List Int)}{r:Nat→Nat→Bool}{k:Nat}(h:∀j,j<k→(entAt ss (k:Int)).used=true→(entAt ss (j:Int)).used=true→r k j=false):lowB ss r k=false:=by
 rw[lowB]
 cases hu:(entAt ss (k:Int)).used with
 | false=>rfl
 | true =>
  rw[Bool.true_and,List.any_eq_false]
  intro j hj
  cases hv:(entAt ss (j:Int)).used with
  | false=>simp
  | true=>rw[h j (List.mem_range.1 hj) hu hv];simp
theorem c1g{b:Int}{l:List Int}{i:Nat}(hi:i<l.length)(h:l.getD i 0=b):1≤cntL b l:=by
 rw[cntL]
 refine List.length_pos_of_mem (a:=b) (List.mem_filter.2 ⟨?_,by simp⟩)
 rw[List.getD,List.getElem?_eq_getElem hi] at h
 exact h▸List.getElem_mem hi
theorem b8o(ss:List (List Int))(b:Nat){n m:Nat}(h:n≤m):ownC ss b n≤ownC ss b m:=by
 induction m with
 | zero =>
  obtain rfl:n=0:=by omega
  exact Nat.le_refl _
 | succ m ih =>
  by_cases e:n=m+1
  ·subst e;exact Nat.le_refl _
  ·exact Nat.le_trans (ih (by omega)) (by rw[ownC];omega)
theorem c3c{ss:List (List Int)}{b n1 n2 i l:Nat}(h12:n1<n2)(h2:n2<16)(t1:takenB ss (n1:Int)=true)(t2:takenB ss (n2:Int)=true)
  (hi:i<(inoAt ss (n1:Int)).b.length) (hl:l<(inoAt ss (n2:Int)).b.length) (e1:(inoAt ss (n1:Int)).b.getD i 0=(b:Int)) (e2:(inoAt ss (n2:Int)).b.getD l 0=(b:Int)):1<ownC ss b 16:=by
 have a1:1≤ownC ss b (n1+1):=by
  rw[ownC,if_pos t1]
  have:=c1g hi e1
  omega
 have a2:=b8o ss b (show n1+1≤n2 by omega)
 have a3:ownC ss b n2+1≤ownC ss b (n2+1):=by
  rw[ownC,if_pos t2]
  have:=c1g hl e2
  omega
 have a4:=b8o ss b (show n2+1≤16 by omega)
 omega
theorem a6j{ss:List (List Int)}{k:Nat}(hk:k<24)(hu:(entAt ss (k:Int)).used=true):takenB ss (entAt ss (k:Int)).target=true:=by
 rw[takenB,namedIn,Bool.or_eq_true]
 exact Or.inl (List.any_eq_true.2 ⟨k,List.mem_range.2 hk,by rw[hu];simp⟩)
theorem b6u{ss:List (List Int)}{n:Int}(h:takenB ss n=true)(h0:n≠0):∃k:Nat,k<24∧(entAt ss (k:Int)).used=true∧(entAt ss (k:Int)).target=n:=by
 rw[takenB,Bool.or_eq_true,decide_eq_true_eq] at h
 rcases h with h|h
 ·obtain⟨k,hk,h2⟩:=List.any_eq_true.1 h
  rw[Bool.and_eq_true,decide_eq_true_eq] at h2
  exact⟨k,List.mem_range.1 hk,h2.1,h2.2⟩
 ·exact absurd h h0
theorem ci_of{ss:List (List Int)}(hl:ss.length=65)(hs:Secs ss)(hr:(inoAt ss 0).kind=2)(hc:cleanB ss=true):CI ss:=by
 have h:=probs_none.1 hc
 have hodd:∀k,k<24→oddB ss k=false:=fun k hk=>h 0 k (by omega) (by show k<24;exact hk)
 have hdang:∀k,k<24→dangB ss k=false:=fun k hk=>h 1 k (by omega) (by show k<24;exact hk)
 have hlost:∀k,k<24→lostB ss k=false:=fun k hk=>h 2 k (by omega) (by show k<24;exact hk)
 have hdbl:∀k,k<24→lowB ss (sameD ss) k=false:=fun k hk=>h 3 k (by omega) (by show k<24;exact hk)
 have hlnk:∀k,k<24→lowB ss (sameL ss) k=false:=fun k hk=>h 4 k (by omega) (by show k<24;exact hk)
 have hshr:∀b,b<25→shrB ss b=false:=fun b hb=>h 5 b (by omega) (by show b<25;exact hb)
 have htgt:∀j k:Nat,j<k→k<24→(entAt ss (j:Int)).used=true→(entAt ss (k:Int)).used=true→(entAt ss (j:Int)).target≠(entAt ss (k:Int)).target:=fun j k hjk hk hj hku e=>by
  have:=b6c hlnk hjk hk hku hj
  rw[sameL,decide_eq_true e] at this
  cases this
 have htg:∀j k:Nat,j<24→k<24→(entAt ss (j:Int)).used=true→(entAt ss (k:Int)).used=true→(entAt ss (j:Int)).target=(entAt ss (k:Int)).target→j=k:=fun j k hj hk hju hku e=>by
  rcases Nat.lt_trichotomy j k with h1|h1|h1
  ·exact absurd e (htgt j k h1 hk hju hku)
  ·exact h1
  ·exact absurd e.symm (htgt k j h1 hj hku hju)
 have hlive:∀k:Nat,k<24→(entAt ss (k:Int)).used=true→(inoAt ss (entAt ss (k:Int)).target).kind≠0:=fun k hk hu e=>by
  have:=hdang k hk
  rw[dangB,hu,kindAt,decide_eq_true e] at this
  cases this
 have huq:∀j k:Nat,j<24→k<24→(entAt ss (j:Int)).used=true→(entAt ss (k:Int)).used=true→(entAt ss (j:Int)).parent=(entAt ss (k:Int)).parent→(entAt ss (j:Int)).name=(entAt ss (k:Int)).name→j=k:=fun j k hj hk hju hku e1 e2=>by
  rcases Nat.lt_trichotomy j k with h1|h1|h1
  ·have:=b6c hdbl h1 hk hku hju
   rw[sameD,decide_eq_true e1,decide_eq_true e2] at this
   cases this
  ·exact h1
  ·have:=b6c hdbl h1 hj hju hku
   rw[sameD,decide_eq_true e1.symm,decide_eq_true e2.symm] at this
   cases this
 have hfit:Fit ss:=⟨hl,hs,hr,htg,hlive,huq⟩
 refine⟨hfit,fun j k i l hj hk hju hku hi hl2 e => ?_,hodd,fun k hk hu => ?_⟩
 ·apply Classical.byContradiction;intro hne
  have huj:=a1b hju
  have huk:=a1b hku
  have hfj:(inoAt ss (entAt ss (j:Int)).target).kind=1:=by
   apply Classical.byContradiction;intro hk1
   rw[needAt,(a5e hk1).1] at hi
   exact absurd hi (Nat.not_lt_zero i)
  have hb:=a3m hfj hi
  rw[blkAt,blkAt] at e
  obtain⟨b,hbe⟩:=Int.eq_ofNat_of_zero_le (show 0≤(inoAt ss (entAt ss (j:Int)).target).b.getD i 0 by omega)
  have n1:(((entAt ss (j:Int)).target.toNat:Nat):Int)=(entAt ss (j:Int)).target:=by omega
  have n2:(((entAt ss (k:Int)).target.toNat:Nat):Int)=(entAt ss (k:Int)).target:=by omega
  have hn4:=a8m (ss:=ss) (entAt ss (j:Int)).target
  have hn5:=a8m (ss:=ss) (entAt ss (k:Int)).target
  have f1:=a0q hs (entAt ss (j:Int)).target
  have f2:=a0q hs (entAt ss (k:Int)).target
  have hdif:(entAt ss (j:Int)).target≠(entAt ss (k:Int)).target:=fun e2=>hne (hfit.tgt j k hj hk hju hku e2)
  have hsb:=hshr b (by omega)
  rw[shrB,decide_eq_true (show 1≤b by omega),Bool.true_and,decide_eq_false_iff_not] at hsb
  unfold needAt at hi hl2
  rcases Int.lt_or_gt_of_ne hdif with hlt|hlt
  ·exact hsb (c3c (n1:=(entAt ss (j:Int)).target.toNat) (n2:=(entAt ss (k:Int)).target.toNat) (i:=i) (l:=l) (by omega) (by omega) (by rw[n1];exact a6j hj hju) (by rw[n2];exact a6j hk hku) (by rw[n1];omega) (by rw[n2];omega) (by rw[n1];exact hbe) (by rw[n2,← e];exact hbe))
  ·exact hsb (c3c (n1:=(entAt ss (k:Int)).target.toNat) (n2:=(entAt ss (j:Int)).target.toNat) (i:=l) (l:=i) (by omega) (by omega) (by rw[n2];exact a6j hk hku) (by rw[n1];exact a6j hj hju) (by rw[n2];omega) (by rw[n1];omega) (by rw[n2,← e];exact hbe) (by rw[n1];exact hbe))
 ·have:=hlost k hk
  rw[lostB,hu,Bool.true_and,Bool.or_eq_false_iff,Bool.not_eq_false',Bool.not_eq_false',decide_eq_true_eq] at this
  exact⟨(a6v (a1b hu).1).1 this.1,this.2⟩
theorem c2t{b:Int}:∀{l:List Int},(∀i j,i<j→j<l.length→l.getD i 0=b→l.getD j 0=b→False)→cntL b l≤1
 | [],_=>Nat.zero_le _
 | a::l,h=>by
  have ih:cntL b l≤1:=c2t fun i j hij hj h1 h2=>h (i+1) (j+1) (by omega) (by simp;omega) (by simpa using h1) (by simpa using h2)
  by_cases e:a=b
  ·have h0:cntL b l=0:=by
    apply Classical.byContradiction;intro hne
    have hp:0<(l.filter fun x=>decide (x=b)).length:=Nat.pos_of_ne_zero hne
    obtain⟨x,hx⟩:=List.exists_mem_of_length_pos hp
    rw[List.mem_filter,decide_eq_true_eq] at hx
    obtain⟨j,hj,e2⟩:=List.mem_iff_getElem.1 hx.1
    exact h 0 (j+1) (by omega) (by simp;omega) (by simpa using e) (by simp[List.getD,hj,e2,hx.2])
   rw[cntL,List.filter_cons,if_pos (by simpa using e),List.length_cons]
   rw[cntL] at h0
   omega
  ·rw[cntL,List.filter_cons,if_neg (by simpa using e)]
   exact ih
theorem d2x{b:Int}{l:List Int}(h:cntL b l≠0):∃i,i<l.length∧l.getD i 0=b:=by
 have hp:0<(l.filter fun x=>decide (x=b)).length:=Nat.pos_of_ne_zero h
 obtain⟨x,hx⟩:=List.exists_mem_of_length_pos hp
 rw[List.mem_filter,decide_eq_true_eq] at hx
 obtain⟨j,hj,e2⟩:=List.mem_iff_getElem.1 hx.1
 exact⟨j,hj,by simp[List.getD,hj,e2,hx.2]⟩
theorem c9f{ss:List (List Int)}(hs:Secs ss){m:Int}{i b:Nat}(hb:1≤b)(h:(inoAt ss m).b.getD i 0=(b:Int)):(inoAt ss m).kind=1∧i<need (inoAt ss m).size.toNat:=by
 have h2:i<need (inoAt ss m).size.toNat:=by
  apply Classical.byContradiction;intro hn
  rw[a8e hs hn] at h
  omega
 refine⟨?_,h2⟩
 apply Classical.byContradiction;intro hk
 rw[(a5e hk).1] at h2
 exact absurd h2 (Nat.not_lt_zero i)
theorem c9q{ss:List (List Int)}(hs:Secs ss){b:Nat}(hb:1≤b)(m:Int):cntL (b:Int) (inoAt ss m).b≤1:=by
 refine c2t fun i j hij hj h1 h2 => ?_
 obtain⟨hk,hj2⟩:=c9f hs hb h2
 exact(a3m hk hj2).2.2 i hij (by rw[h1,h2])
theorem d0m{ss:List (List Int)}(C:CI ss){b:Nat}(hb:1≤b):∀n,n≤16→ownC ss b n≤1∧(ownC ss b n≠0→∃m:Nat,m<n∧takenB ss (m:Int)=true∧∃i,(inoAt ss (m:Int)).b.getD i 0=(b:Int))
 | 0,_=>⟨Nat.zero_le _,fun h=>absurd rfl h⟩
 | n+1,hn=>by
  obtain⟨h1,h2⟩:=d0m C hb n (by omega)
  rw[ownC]
  by_cases ht:takenB ss (n:Int)=true
  ·rw[if_pos ht]
   have hc:=c9q C.fit.secs hb (n:Int)
   by_cases h0:cntL (b:Int) (inoAt ss (n:Int)).b=0
   ·rw[h0,Nat.add_zero]
    exact⟨h1,fun h=>by obtain⟨m,hm,r⟩:=h2 h;exact⟨m,by omega,r⟩⟩
   ·obtain⟨i,hi,e⟩:=d2x h0
    have hz:ownC ss b n=0:=by
     apply Classical.byContradiction;intro hne
     obtain⟨m,hm,tm,l,el⟩:=h2 hne
     obtain⟨k1,g1⟩:=c9f C.fit.secs hb e
     obtain⟨k2,g2⟩:=c9f C.fit.secs hb el
     have hm0:(m:Int)≠0:=fun e0=>by rw[e0,C.fit.root] at k2;exact absurd k2 (by decide)
     obtain⟨x,hx,ux,tx⟩:=b6u ht (by omega)
     obtain⟨y,hy,uy,ty⟩:=b6u tm hm0
     have:=C.blk x y i l hx hy ux uy (by rw[needAt,tx];exact g1) (by rw[needAt,ty];exact g2) (by rw[blkAt,blkAt,tx,ty,e,el])
     subst this
     rw[tx] at ty
     omega
    rw[hz,Nat.zero_add]
    exact⟨hc,fun _=>⟨n,by omega,ht,i,e⟩⟩
  ·rw[if_neg ht,Nat.add_zero]
   exact⟨h1,fun h=>by obtain⟨m,hm,r⟩:=h2 h;exact⟨m,by omega,r⟩⟩
theorem d1w{ss:List (List Int)}(C:CI ss):cleanB ss=true:=by
 refine probs_none.2 fun i n hi hn => ?_
 match i,hi with
 | 0,_=>exact C.even n hn
 | 1,_ =>
  show dangB ss n=false
  rw[dangB]
  cases hu:(entAt ss (n:Int)).used with
  | false=>rfl
  | true=>rw[Bool.true_and,kindAt];exact decide_eq_false (C.fit.live n hn hu)
 | 2,_ =>
  show lostB ss n=false
  rw[lostB]
  cases hu:(entAt ss (n:Int)).used with
  | false=>rfl
  | true =>
   obtain⟨h1,h2⟩:=C.way n hn hu
   rw[Bool.true_and,b2v h1,decide_eq_true h2]
   rfl
 | 3,_ =>
  show lowB ss (sameD ss) n=false
  refine d5f fun j hj hu hv => ?_
  have hn24:n<24:=hn
  rw[sameD,Bool.and_eq_false_iff,decide_eq_false_iff_not,decide_eq_false_iff_not]
  by_cases e:(entAt ss (j:Int)).parent=(entAt ss (n:Int)).parent
  ·exact Or.inr fun e2=>by have:=C.fit.uniq j n (by omega) hn24 hv hu e e2;omega
  ·exact Or.inl e
 | 4,_ =>
  show lowB ss (sameL ss) n=false
  refine d5f fun j hj hu hv => ?_
  have hn24:n<24:=hn
  rw[sameL]
  exact decide_eq_false fun e=>by have:=C.fit.tgt j n (by omega) hn24 hv hu e;omega
 | 5,_ =>
  show shrB ss n=false
  rw[shrB]
  by_cases h1:1≤n
  ·have:=(d0m C h1 16 (Nat.le_refl _)).1
   rw[decide_eq_false (show ¬1<ownC ss n 16 by omega),Bool.and_false]
  ·rw[decide_eq_false h1,Bool.false_and]
 | i+6,h=>omega
end lk
namespace lk
set_option maxRecDepth 100000
open rows
open sec
open ly
open pa
open al
open fs
open dsk (St)
theorem a6o{ss:List (List Int)}(F:Fit ss):∀(p:List (List Int)) (n m:Int),Reach ss n→lookG ss n p=(m,0)→Reach ss m
 | [],n,m,hn,h=>by
  obtain rfl:n=m:=congrArg Prod.fst h
  exact hn
 | x::r,n,m,hn,h=>by
  rw[lookG] at h
  by_cases hk:(inoAt ss n).kind=2
  ·rw[if_pos hk] at h
   cases hf:findO ss n (strOfNums x) with
   | none=>rw[hf] at h;exact absurd (show (4:Int)=0 from congrArg Prod.snd h) (by decide)
   | some k =>
    rw[hf] at h
    obtain⟨h1,h2,h3,h4⟩:=(a3j F).1 hf
    refine a6o F r _ m (.step k h1 ?_ (by rw[h3];exact hn)) h
    rw[linkB,h2,h3,kindAt,decide_eq_true hk,kindAt,decide_eq_false (F.live k h1 h2)]
    rfl
  ·rw[if_neg hk] at h
   exact absurd (show (6:Int)=0 from congrArg Prod.snd h) (by decide)
theorem a8q{ss:List (List Int)}(s:ByteArray)(h:(placeV ss s).2=0):∃dn x d,Spt ss s dn x d∧(placeV ss s).1=⟨d,strOfNums x,(((findO ss d (strOfNums x)).getD 0:Nat):Int),(findO ss d (strOfNums x)).isSome⟩:=by
 by_cases he:errP (bys s)=0
 ·obtain⟨dn,x,hs,hp,hl⟩:=c6t he
  obtain⟨hj,hn,h4,_⟩:=a2i hs
  have hdn:∀y∈dn,isNm y=true:=fun y hy=>hn y (List.mem_append_left _ hy)
  have hd4:dn.length≤4:=by simp at h4;omega
  have hv:lookV ss (bys (strOfNums (parL (bys s))))=lookG ss 0 dn:=by rw[hp];exact c8k hdn hd4
  unfold placeV at h ⊢
  have hc:¬(errP (bys s)≠0):=by simp[he]
  rw[hv,hl,if_neg hc] at h ⊢
  by_cases h2:(lookG ss 0 dn).2=0
  ·have hc2:¬((lookG ss 0 dn).2≠0):=by simp[h2]
   rw[if_neg hc2] at h ⊢
   by_cases h3:(inoAt ss (lookG ss 0 dn).1).kind=2
   ·rw[if_neg (by simp[h3])] at h ⊢
    exact⟨dn,x,(lookG ss 0 dn).1,⟨by rw[hj,b0p],hn,h4,Prod.ext rfl h2,h3⟩,rfl⟩
   ·rw[if_pos h3] at h
    exact absurd h (by decide)
  ·rw[if_pos h2] at h
   exact absurd h h2
 ·unfold placeV at h
  rw[if_pos he] at h
  exact absurd h he
theorem c4x{ss ss':List (List Int)}(he:∀k:Nat,k<24→(entAt ss (k:Int)).used=true→entAt ss' (k:Int)=entAt ss (k:Int))(hk:∀m:Int,(inoAt ss m).kind≠0→(inoAt ss' m).kind=(inoAt ss m).kind){n:Int}(h:Reach ss n):Reach ss' n:=by
 induction h with
 | root=>exact .root
 | step k hk24 hl hp ih =>
  have hu:=a2c hl
  have e:=he k hk24 hu
  rw[← e]
  refine .step k hk24 ?_ (by rw[e];exact ih)
  rw[linkB,hu,Bool.true_and,Bool.and_eq_true,decide_eq_true_eq,Bool.not_eq_true',decide_eq_false_iff_not] at hl
  rw[linkB,e,hu,Bool.true_and,kindAt,kindAt,hk _ (by have:=hl.1;rw[kindAt] at this;omega),hk _ (by have:=hl.2;rw[kindAt] at this;exact this),decide_eq_true (show (inoAt ss (entAt ss (k:Int)).parent).kind=2 from hl.1),decide_eq_false (show ¬(inoAt ss (entAt ss (k:Int)).target).kind=0 from hl.2)]
  rfl
theorem a8p{ss:List (List Int)}(hl:ss.length=65){k:Nat}(hk:k<24){x:Ent}(hx:rightE x=true)(h:∀j:Nat,j<24→oddB ss j=false):∀j:Nat,j<24→oddB (setE ss k x) j=false:=fun j hj=>by
 rw[oddB,setE,a2l (by omega)]
 by_cases e:j=k
 ·rw[if_pos (by omega),entV,if_pos hx,b1a hx];rfl
 ·rw[if_neg (by omega)];exact h j hj
theorem c2f{ss:List (List Int)}(hl:ss.length=65){n:Nat}(hn:n<16)(x:Ino)(h:∀j:Nat,j<24→oddB ss j=false):∀j:Nat,j<24→oddB (setI ss n x) j=false:=fun j hj=>by
 rw[oddB,setI,a2l (by omega),if_neg (by omega)];exact h j hj
def Good(st:St):Prop:=CI (nowL st)∧Sound st
theorem c9n{st:St}(G:Good st)(s:ByteArray){kind:Int}(hkd:kind=1∨kind=2):Good (makeV st s kind).2:=by
 obtain⟨C,hs⟩:=G
 unfold makeV
 by_cases h0:(placeV (nowL st) s).2=0
 ·rw[if_neg (a9k h0)]
  obtain⟨dn,x,d,P,hp⟩:=a8q s h0
  rw[hp]
  cases hf:findO (nowL st) d (strOfNums x) with
  | some k=>exact⟨C,hs⟩
  | none =>
   show Good (match frI (nowL st),frE (nowL st) with
    | some n,some k=>doR st [wIno (n:Int) ⟨kind,0,[0,0,0,0]⟩,wEnt (k:Int) ⟨true,d,strOfNums x,(n:Int)⟩ d]
    | _,_=>(2,st)).2
   obtain⟨k,hk⟩:=b8k C.fit
   cases hn:frI (nowL st) with
   | none=>exact⟨C,hs⟩
   | some n =>
    rw[hk]
    obtain⟨n1,n16,nt⟩:=c1u hn
    obtain⟨k24,ku⟩:=b5l hk
    obtain⟨st',g1,g2,g3⟩:=a4c [wIno (n:Int) ⟨kind,0,[0,0,0,0]⟩,wEnt (k:Int) ⟨true,d,strOfNums x,(n:Int)⟩ d] hs (fun y hy=>by
     rcases List.mem_cons.1 hy with rfl|hy
     ·exact c2k n16 _
     ·rw[List.mem_singleton.1 hy];exact b0x k24 _ _)
    simp only
    rw[g1]
    have g4:nowL st'=madeL (nowL st) n k kind d (strOfNums x):=by
     rw[g3,madeL,setE,setI]
     show ((nowL st).set (wIno (n:Int) _).pos.toNat _).set (wEnt (k:Int) _ d).pos.toNat _=_
     rw[b9z,a7m];rfl
    have hd16:=c7o P.dir
    have hx:isNm x=true:=P.names x (by simp)
    have hnm:nameB (strOfNums x)=true:=by rw[b1z,a1u (a3s hx)];exact hx
    have hE:=fun j=>c2v (kind:=kind) C.fit.len n16 n1 k24 hd16 hnm j
    have hI:=fun j=>c1v (d:=d) (nm:=strOfNums x) C.fit.len n16 k24 hkd j
    refine⟨?_,g2⟩
    show CI (nowL st')
    rw[g4]
    have hold:∀j:Nat,j<24→(entAt (madeL (nowL st) n k kind d (strOfNums x)) (j:Int)).used=true→0<needAt (madeL (nowL st) n k kind d (strOfNums x)) j→j≠k:=fun j hj hu hpos e=>by
     subst e
     rw[needAt,hE,if_pos rfl] at hpos
     simp only at hpos
     rw[hI,if_pos rfl] at hpos
     have h0:need (Int.toNat 0)=0:=by decide
     have h1:0<need (Int.toNat 0):=hpos
     omega
    have hnk:(inoAt (nowL st) (n:Int)).kind=0∨∀m:Int,Reach (nowL st) m→m≠(n:Int):=Or.inr fun m hm e=>by
     subst e
     generalize hg:(n:Int)=z at hm
     cases hm with
     | root=>omega
     | step j hj hl hp=>exact nt j hj (a2c hl) hg.symm
    have hkk:∀m:Int,m≠(n:Int)→(inoAt (madeL (nowL st) n k kind d (strOfNums x)) m).kind=(inoAt (nowL st) m).kind:=fun m hm=>by rw[hI,if_neg hm]
    have hRk:∀m:Int,Reach (nowL st) m→Reach (madeL (nowL st) n k kind d (strOfNums x)) m:=fun m hm=>by
     induction hm with
     | root=>exact .root
     | step j hj hl hp ih =>
      have hu:=a2c hl
      have hjk:(j:Int)≠(k:Int):=fun e=>by
       have:j=k:=by omega
       subst this
       rw[ku] at hu;cases hu
      have e:entAt (madeL (nowL st) n k kind d (strOfNums x)) (j:Int)=entAt (nowL st) (j:Int):=by rw[hE,if_neg hjk]
      have hpn:(entAt (nowL st) (j:Int)).parent≠(n:Int):=by
       rcases hnk with h|h
       ·have h2:=hl
        rw[linkB,hu,Bool.true_and,Bool.and_eq_true,decide_eq_true_eq] at h2
        intro e2
        rw[e2,kindAt,h] at h2
        exact absurd h2.1 (by decide)
       ·exact h _ hp
      rw[← e]
      refine .step j hj ?_ (by rw[e];exact ih)
      rw[linkB,e,kindAt,kindAt,hkk _ hpn,hkk _ (nt j hj hu)]
      exact hl
    refine⟨d3d C.fit hn hk hkd hd16 hnm hf,b4n C.blk id (fun j hj hu hpos => ?_) (fun j k _ _ _ _ _ _ e=>e),?_,fun j hj hu => ?_⟩
    ·have hjk:=hold j hj hu hpos
     rw[hE,if_neg (by omega)] at hu ⊢
     exact⟨hj,hu,by rw[hI,if_neg (nt j hj hu)];rfl⟩
    ·rw[madeL]
     refine a8p (by rw[a6s];exact C.fit.len) k24 ?_ (c2f C.fit.len n16 _ C.even)
     rw[a1t rfl]
     simp only[Bool.and_eq_true,decide_eq_true_eq]
     exact⟨⟨⟨⟨hd16.1,hd16.2⟩,by omega⟩,by omega⟩,hnm⟩
    ·have hdR:Reach (nowL st) d:=a6o C.fit dn 0 d .root P.way
     have hdn:d≠(n:Int):=by
      rcases hnk with h|h
      ·intro e2;rw[← e2,P.dir] at h;exact absurd h (by decide)
      ·exact h d hdR
     by_cases ej:j=k
     ·subst ej
      rw[hE,if_pos rfl]
      exact⟨hRk d hdR,by rw[kindAt,hkk d hdn];exact P.dir⟩
     ·rw[hE,if_neg (by omega)] at hu ⊢
      obtain⟨w1,w2⟩:=C.way j hj hu
      have hpn:(entAt (nowL st) (j:Int)).parent≠(n:Int):=by
       rcases hnk with h|h
       ·intro e2;rw[e2,kindAt,h] at w2;exact absurd w2 (by decide)
       ·exact h _ w1
      exact⟨hRk _ w1,by rw[kindAt,hkk _ hpn];exact w2⟩
 ·rw[if_pos h0]
  exact⟨C,hs⟩
end lk
namespace lk
set_option maxRecDepth 100000
open rows
open sec
open ly
open pa
open al
open fs
open dsk (St)
theorem c3m{ss:List (List Int)}(hl:ss.length=65){k:Nat}(hk:k<24)(hno:∀j:Nat,j<24→(entAt ss (j:Int)).used=true→(entAt ss (j:Int)).parent≠(entAt ss (k:Int)).target){m:Int}(h:Reach ss m)(hm:m≠(entAt ss (k:Int)).target):Reach (setE ss k ent0) m:=by
 induction h with
 | root=>exact .root
 | step j hj hlk hp ih =>
  have hjk:¬(j:Int)=(k:Int):=fun e=>hm (by rw[e])
  have e:entAt (setE ss k ent0) (j:Int)=entAt ss (j:Int):=by rw[a5y hl hk,if_neg hjk]
  have ih2:=ih (hno j hj (a2c hlk))
  rw[← e]
  refine .step j hj ?_ (by rw[e];exact ih2)
  rw[linkB,e,kindAt,kindAt,a2s hl hk,a2s hl hk]
  exact hlk
theorem b2m{ss:List (List Int)}(C:CI ss){k:Nat}(hk:k<24)(hno:∀j:Nat,j<24→(entAt ss (j:Int)).used=true→(entAt ss (j:Int)).parent≠(entAt ss (k:Int)).target):CI (setE ss k ent0):=by
 have hE:=fun j=>a5y C.fit.len hk j
 have hI:=fun j=>a2s C.fit.len hk ent0 j
 have hu2:∀j:Nat,(entAt (setE ss k ent0) (j:Int)).used=true→entAt (setE ss k ent0) (j:Int)=entAt ss (j:Int):=fun j hu=>by
  have hjk:¬(j:Int)=(k:Int):=fun e=>by
   rw[hE,if_pos e] at hu
   cases hu
  rw[hE,if_neg hjk]
 refine⟨b1w C.fit hk,b4n C.blk id (fun j hj hu hpos => ?_) (fun j k _ _ _ _ _ _ e=>e),a8p C.fit.len hk a3u C.even,fun j hj hu => ?_⟩
 ·have e:=hu2 j hu
  rw[e] at hu ⊢
  exact⟨hj,hu,by rw[hI];rfl⟩
 ·have e:=hu2 j hu
  rw[e] at hu ⊢
  obtain⟨w1,w2⟩:=C.way j hj hu
  exact⟨c3m C.fit.len hk hno w1 (hno j hj hu),by rw[kindAt,hI];exact w2⟩
theorem full_of{ss:List (List Int)}(C:CI ss){k j:Nat}(hj:j<24)(hu:(entAt ss (j:Int)).used=true)(e:(entAt ss (j:Int)).parent=(entAt ss (k:Int)).target):(inoAt ss (entAt ss (k:Int)).target).kind=2∧fullB ss (entAt ss (k:Int)).target=true:=by
 have pd:=(C.way j hj hu).2
 rw[e] at pd
 refine⟨pd,?_⟩
 rw[fullB,List.any_eq_true]
 refine⟨j,List.mem_range.2 hj,?_⟩
 rw[atB,Bool.and_eq_true,decide_eq_true_eq,standB,Bool.and_eq_true]
 exact⟨⟨hu,by have:=C.fit.live j hj hu;simp[this]⟩,e⟩
theorem c6m{st:St}(G:Good st)(s:ByteArray):Good (unlinkV st s).2:=by
 obtain⟨C,hs⟩:=G
 unfold unlinkV
 by_cases h0:(placeV (nowL st) s).2=0
 ·rw[if_neg (a9k h0)]
  obtain⟨dn,x,d,P,hp⟩:=a8q s h0
  rw[hp]
  cases hf:findO (nowL st) d (strOfNums x) with
  | none=>exact⟨C,hs⟩
  | some k =>
   obtain⟨hk,hku,_,_⟩:=(a3j C.fit).1 hf
   show Good (if (inoAt (nowL st) (entAt (nowL st) (k:Int)).target).kind=2∧fullB (nowL st) (entAt (nowL st) (k:Int)).target=true then (7,st) else doR st [wEnt (k:Int) ent0 d]).2
   by_cases hb:(inoAt (nowL st) (entAt (nowL st) (k:Int)).target).kind=2∧fullB (nowL st) (entAt (nowL st) (k:Int)).target=true
   ·rw[if_pos hb]
    exact⟨C,hs⟩
   ·rw[if_neg hb]
    obtain⟨st',g1,g2,g3⟩:=a4c [wEnt (k:Int) ent0 d] hs (fun y hy=>by rw[List.mem_singleton.1 hy];exact b0x hk _ _)
    rw[g1]
    have g4:nowL st'=setE (nowL st) k ent0:=by
     rw[g3,setE]
     show (nowL st).set (wEnt (k:Int) _ d).pos.toNat _=_
     rw[a7m];rfl
    refine⟨?_,g2⟩
    show CI (nowL st')
    rw[g4]
    exact b2m C hk fun j hj hu e=>hb (full_of C hj hu e)
 ·rw[if_pos h0]
  exact⟨C,hs⟩
theorem c2l{ss ss':List (List Int)}(C:CI ss)(A:fs.Alike ss ss')(hb:Blk ss')(ho:∀k:Nat,k<24→oddB ss' k=false):CI ss' :=
 ⟨A.fit C.fit,hb,ho,fun k hk hu=>by
  have e:=A.ent (k:Int)
  rw[e] at hu ⊢
  obtain⟨w1,w2⟩:=C.way k hk hu
  exact⟨c4x (fun j _ _=>A.ent (j:Int)) (fun m _=>A.kind m) w1,by rw[kindAt,A.kind];exact w2⟩⟩
end lk
namespace lk
set_option maxRecDepth 100000
open rows
open sec
open ly
open pa
open al
open fs
open dsk (St)
theorem c2x{ss:List (List Int)}(F:Fit ss)(s:ByteArray)(h:(fileV ss s).2.2=0):∃k:Nat,k<24∧(entAt ss (k:Int)).used=true∧fileV ss s=((entAt ss (k:Int)).target,inoAt ss (entAt ss (k:Int)).target,0)∧(inoAt ss (entAt ss (k:Int)).target).kind=1:=by
 unfold fileV at h ⊢
 by_cases h0:(lookV ss (bys s)).2=0
 ·rw[if_neg (by simp[h0])] at h ⊢
  by_cases h1:(inoAt ss (lookV ss (bys s)).1).kind=1
  ·rw[if_neg (by simp[h1])]
   have hw:∃ns,lookG ss 0 ns=((lookV ss (bys s)).1,0):=by
    unfold lookV at h0 ⊢
    split at h0
    ·exact absurd h0 (by decide)
    ·rename_i ns hs
     exact⟨ns,Prod.ext rfl h0⟩
   obtain⟨ns,hw⟩:=hw
   rcases way_end F hw with e|⟨k,hk,hu,ht⟩
   ·rw[e,F.root] at h1
    exact absurd h1 (by decide)
   ·exact⟨k,hk,hu,by rw[ht],by rw[ht];exact h1⟩
  ·rw[if_pos h1] at h
   exact absurd h (by decide)
 ·rw[if_pos h0] at h
  exact absurd h h0
theorem d3s{st:St}(G:Good st)(s:ByteArray)(z:Int):Good (truncV st s z).2:=by
 obtain⟨C,hs⟩:=G
 have F:=C.fit
 unfold truncV
 by_cases h0:(fileV (nowL st) s).2.2=0
 case neg=>rw[if_pos h0];exact⟨C,hs⟩
 rw[if_neg (a9k h0)]
 obtain⟨k,hk,hku,hfl,hkind⟩:=c2x F s h0
 rw[hfl]
 simp only
 by_cases hz:z<0∨(inoAt (nowL st) (entAt (nowL st) (k:Int)).target).size<z
 ·rw[if_pos hz];exact⟨C,hs⟩
 ·rw[if_neg hz]
  obtain⟨m,rfl⟩:=Int.eq_ofNat_of_zero_le (show 0≤z by omega)
  rw[Int.toNat_natCast]
  by_cases he:(m:Int)=(inoAt (nowL st) (entAt (nowL st) (k:Int)).target).size
  ·rw[if_pos he]
   exact⟨C,hs⟩
  ·rw[if_neg he]
   have hu:=a1b hku
   obtain⟨n,hn⟩:=Int.eq_ofNat_of_zero_le (show 0≤(entAt (nowL st) (k:Int)).target by omega)
   have hn16:n<16:=by omega
   have h4:=a0q F.secs (n:Int)
   have hkd:(inoAt (nowL st) (n:Int)).kind=1:=by rw[← hn];exact hkind
   have hr:=c8n F.secs hkd (z:=m) (by rw[← hn];omega)
   have hmz:(m:Int)<(inoAt (nowL st) (n:Int)).size:=by rw[← hn];omega
   have hss:=a3w (ss:=nowL st) (n:Int)
   have hn4:need m≤4:=a5l (by omega)
   rw[hn]
   obtain⟨y,hy⟩:∃y:Ino,(⟨(inoAt (nowL st) (n:Int)).kind,(m:Int),cutB (inoAt (nowL st) (n:Int)).b (need m)⟩:Ino)=y:=⟨_,rfl⟩
   rw[hy] at hr ⊢
   have hy4:y.b.length=4:=by rw[← hy];simp[cutB,h4];omega
   have hyk:y.kind=1:=by rw[← hy];exact hkd
   have hys:y.size=(m:Int):=by rw[← hy]
   have hyb:∀l,y.b.getD l 0=if l<need m then (inoAt (nowL st) (n:Int)).b.getD l 0 else 0:=fun l=>by rw[← hy];exact b5n h4 hn4
   obtain⟨st',g1,g2,g3⟩:=a4c [wIno (n:Int) y] hs (fun w hw=>by rw[List.mem_singleton.1 hw];exact c2k hn16 _)
   rw[g1]
   have g4:nowL st'=setI (nowL st) n y:=by
    rw[g3,setI]
    show (nowL st).set (wIno (n:Int) y).pos.toNat _=_
    rw[b9z];rfl
   refine⟨?_,g2⟩
   show CI (nowL st')
   rw[g4]
   have hI:=fun j=>b5z F.len hn16 hy4 hr j
   have hA:fs.Alike (nowL st) (setI (nowL st) n y):=⟨a6s ..,a2m F.secs (a2k hy4) _,fun j=>b6f F.len hn16 y j,fun j=>by
    rw[hI]
    split
    ·rename_i e;rw[e,hyk,hkd]
    ·rfl⟩
   have hne:∀j:Nat,j<24→j≠k→(entAt (nowL st) (j:Int)).used=true→(entAt (nowL st) (j:Int)).target≠(n:Int):=fun j hj hjk hju e=>hjk (F.tgt j k hj hk hju hku (by rw[e,hn]))
   have hneed:∀j:Nat,j<24→(entAt (nowL st) (j:Int)).used=true→∀l,l<needAt (setI (nowL st) n y) j→l<needAt (nowL st) j∧blkAt (setI (nowL st) n y) j l=blkAt (nowL st) j l:=fun j hj hju l hl=>by
    by_cases e:j=k
    ·subst e
     unfold needAt at hl ⊢
     unfold blkAt
     rw[hA.ent,hn,hI,if_pos rfl] at hl ⊢
     rw[hys,Int.toNat_natCast] at hl
     have:=b1p (a:=m) (b:=(inoAt (nowL st) (n:Int)).size.toNat) (by omega)
     exact⟨by omega,by rw[hyb,if_pos hl]⟩
    ·unfold needAt at hl ⊢
     unfold blkAt
     rw[hA.ent,hI,if_neg (hne j hj e hju)] at hl ⊢
     exact⟨hl,rfl⟩
   refine c2l C hA (fun a b l q ha hb hau hbu hl hq e => ?_) (c2f F.len hn16 y C.even)
   rw[hA.ent] at hau hbu
   obtain⟨l1,l2⟩:=hneed a ha hau l hl
   obtain⟨q1,q2⟩:=hneed b hb hbu q hq
   exact C.blk a b l q ha hb hau hbu l1 q1 (by rw[← l2,← q2];exact e)
end lk
namespace lk
set_option maxRecDepth 100000
open rows
open sec
open ly
open pa
open al
open fs
open dsk (St Wr)
theorem c3d:∀(ws:List Wr) {ss:List (List Int)},ss.length=65→(∀x∈ws,1≤x.pos∧x.pos<65∧¬(17≤x.pos∧x.pos<41))→(∀j:Nat,j<24→oddB ss j=false)→∀j:Nat,j<24→oddB (setsL ss ws) j=false
 | [],ss,_,_,h=>h
 | x::r,ss,hl,hw,h=>by
  obtain⟨h1,h2,h3⟩:=hw x List.mem_cons_self
  refine c3d r (ss:=ss.set x.pos.toNat x.s) (by rw[List.length_set];exact hl) (fun y hy=>hw y (List.mem_cons_of_mem _ hy)) fun j hj => ?_
  rw[oddB,a2l (by omega),if_neg (by omega)]
  exact h j hj
theorem c2j{st:St}(Gd:Good st)(s:ByteArray)(off:Int)(bl:List Int)(hbl:∀z∈bl,0≤z∧z<256):Good (writeFV st s off bl).2:=by
 obtain⟨C,hs⟩:=Gd
 have F:=C.fit
 unfold writeFV
 simp only
 by_cases h0:(fileV (nowL st) s).2.2=0
 case neg=>rw[if_pos h0];exact⟨C,hs⟩
 rw[if_neg (a9k h0)]
 obtain⟨k,hk,hku,hfl,hkind⟩:=c2x F s h0
 rw[hfl]
 simp only
 by_cases hz:off<0∨(inoAt (nowL st) (entAt (nowL st) (k:Int)).target).size<off
 ·rw[if_pos hz];exact⟨C,hs⟩
 rw[if_neg hz]
 by_cases hr:128-off<(bl.length:Int)
 ·rw[if_pos hr];exact⟨C,hs⟩
 rw[if_neg hr]
 obtain⟨o,rfl⟩:=Int.eq_ofNat_of_zero_le (show 0≤off by omega)
 rw[Int.toNat_natCast]
 have hu:=a1b hku
 have hkt:=c0g hk hku
 have hkd:=hkind
 obtain⟨n,hn⟩:=Int.eq_ofNat_of_zero_le (show 0≤(entAt (nowL st) (k:Int)).target by omega)
 have hn16:n<16:=by omega
 have hneedk:needAt (nowL st) k=hadG (nowL st) n:=by rw[needAt,hn];rfl
 rw[hn] at hz hkt hkd ⊢
 have hss:=a3w (ss:=nowL st) (n:Int)
 have hcast:((o:Int)+(bl.length:Int))=((o+bl.length:Nat):Int):=by omega
 rw[hcast]
 obtain⟨w,hw⟩:∃w:Int,((need (max (inoAt (nowL st) (n:Int)).size (o+bl.length:Nat)).toNat:Nat):Int)-(need (inoAt (nowL st) (n:Int)).size.toNat:Nat)=w:=⟨_,rfl⟩
 have hw0:0≤w:=by
  have:=b1p (a:=(inoAt (nowL st) (n:Int)).size.toNat) (b:=(max (inoAt (nowL st) (n:Int)).size (o+bl.length:Nat)).toNat) (by omega)
  omega
 have hfr:=c7k (nowL st)
 rw[hw]
 cases hb:blkB (nowL st) w with
 | false =>
  rw[if_pos rfl]
  exact⟨C,hs⟩
 | true =>
  rw[if_neg (by decide)]
  have hwle:w≤((frB (nowL st)).length:Int):=by
   have h:=hb
   rw[blkB,decide_eq_true_eq] at h
   exact h.2
  have hbl2:blkL (nowL st) w=ofNats ((frB (nowL st)).take w.toNat):=by rw[blkL,if_pos hb]
  rw[hbl2]
  obtain⟨f,hf⟩:∃f,(frB (nowL st)).take w.toNat=f:=⟨_,rfl⟩
  rw[hf]
  have hflen:f.length=w.toNat:=by rw[← hf,List.length_take];omega
  have G:Grow (nowL st) n o bl f:={
   len:=F.len
   secs:=F.secs
   n16:=hn16
   kind:=hkd
   offs:=by omega
   room:=by omega
   cnt:=by rw[hflen];omega
   free:=fun c hc=>by
    rw[← hf] at hc
    obtain⟨h1,h2⟩:=(b4j (nowL st) 25 c).1 (List.mem_of_mem_take hc)
    refine⟨?_,by omega,h2⟩
    by_cases h3:c=0
    ·rw[h3,used0] at h2;cases h2
    ·omega
   nodup:=by
    rw[← hf]
    exact((a9c (nowL st) 25).imp fun {a b} h=>Nat.ne_of_lt h).sublist (List.take_sublist _ _)
   bytes:=hbl
   taken:=hkt }
  obtain⟨i1,i2,i3,i4,i5⟩:=G.img
  have hin:∀x∈blksW (nowL st) (n:Int) (gI (nowL st) n o bl f) (hadG (nowL st) n) o bl 4++(if gI (nowL st) n o bl f=inoAt (nowL st) (n:Int) then [] else [wIno (n:Int) (gI (nowL st) n o bl f)]),1≤x.pos∧x.pos<65:=fun x hx=>by
   rcases List.mem_append.1 hx with hx|hx
   ·have:=G.inB hx;omega
   ·split at hx
    ·cases hx
    ·rw[List.mem_singleton.1 hx];exact c2k hn16 _
  obtain⟨st',g1,g2,g3⟩:=a4c _ hs hin
  have g4:nowL st'=wrImg (nowL st) n o bl (gI (nowL st) n o bl f):=by rw[g3];rfl
  have hcall:doR st (blksW (nowL st) (n:Int) (grownI (inoAt (nowL st) (n:Int)) o bl.length (ofNats f)) (need (inoAt (nowL st) (n:Int)).size.toNat) o bl 4++if grownI (inoAt (nowL st) (n:Int)) o bl.length (ofNats f)=inoAt (nowL st) (n:Int) then [] else [wIno (n:Int) (grownI (inoAt (nowL st) (n:Int)) o bl.length (ofNats f))])=(0,st'):=by
   have e:grownI (inoAt (nowL st) (n:Int)) o bl.length (ofNats f)=gI (nowL st) n o bl f:=by rw[gI]
   rw[e];exact g1
  rw[hcall]
  refine⟨?_,g2⟩
  show CI (nowL st')
  rw[g4]
  have hA:fs.Alike (nowL st) (wrImg (nowL st) n o bl (gI (nowL st) n o bl f)):=⟨by rw[i1,F.len],i2,i3,fun m=>by
   rw[i4]
   split
   ·rename_i e;rw[e];rfl
   ·rfl⟩
  have hne:∀j:Nat,j<24→j≠k→(entAt (nowL st) (j:Int)).used=true→(entAt (nowL st) (j:Int)).target≠(n:Int):=fun j hj hjk hju e=>hjk (F.tgt j k hj hk hju hku (by rw[e,hn]))
  have hoff:∀j l:Nat,j<24→j≠k→(entAt (nowL st) (j:Int)).used=true→l<needAt (nowL st) j→∀q,q<newG (nowL st) n o bl→(gI (nowL st) n o bl f).b.getD q 0≠blkAt (nowL st) j l:=fun j l hj hjk hju hl q hq e=>by
   have hbi:=d5b hl
   by_cases e1:q<hadG (nowL st) n
   ·rw[G.old e1] at e
    have:blkAt (nowL st) k q=blkAt (nowL st) j l:=by rw[← e,blkAt,hn]
    exact hjk (C.blk k j q l hk hj hku hju (by rw[hneedk];exact e1) hl this).symm
   ·obtain⟨c,c1,c2,_⟩:=G.fresh e1 hq
    rw[c2] at e
    obtain⟨c3,c4,c5⟩:=G.free c c1
    have:=(d1m F c3).2 (blkLs_mem.2 ⟨j,l,hj,hju,hl,by omega⟩)
    rw[this] at c5;cases c5
  refine c2l C hA (fun a c l q ha hc hau hcu hl hq e => ?_) (c3d _ F.len (fun x hx => ?_) C.even)
  ·rw[i3] at hau hcu
   have hA2:∀z:Nat,z<24→(entAt (nowL st) (z:Int)).used=true→z≠k→needAt (wrImg (nowL st) n o bl (gI (nowL st) n o bl f)) z=needAt (nowL st) z∧∀p,blkAt (wrImg (nowL st) n o bl (gI (nowL st) n o bl f)) z p=blkAt (nowL st) z p:=fun z hz hzu hzk=>by
    unfold needAt blkAt
    rw[i3,i4,if_neg (hne z hz hzk hzu)]
    exact⟨rfl,fun _=>rfl⟩
   have hK:needAt (wrImg (nowL st) n o bl (gI (nowL st) n o bl f)) k=newG (nowL st) n o bl∧∀p,blkAt (wrImg (nowL st) n o bl (gI (nowL st) n o bl f)) k p=(gI (nowL st) n o bl f).b.getD p 0:=by
    unfold needAt blkAt
    rw[i3,hn,i4,if_pos rfl]
    exact⟨rfl,fun _=>rfl⟩
   by_cases eak:a=k<;>by_cases eck:c=k
   ·rw[eak,eck]
   ·exfalso
    subst eak
    obtain⟨m1,m2⟩:=hA2 c hc hcu eck
    rw[hK.1] at hl
    rw[m1] at hq
    rw[hK.2,m2] at e
    exact hoff c q hc eck hcu hq l hl e
   ·exfalso
    subst eck
    obtain⟨m1,m2⟩:=hA2 a ha hau eak
    rw[hK.1] at hq
    rw[m1] at hl
    rw[hK.2,m2] at e
    exact hoff a l ha eak hau hl q hq e.symm
   ·obtain⟨m1,m2⟩:=hA2 a ha hau eak
    obtain⟨m3,m4⟩:=hA2 c hc hcu eck
    rw[m1] at hl
    rw[m3] at hq
    rw[m2,m4] at e
    exact C.blk a c l q ha hc hau hcu hl hq e
  ·rcases List.mem_append.1 hx with hx|hx
   ·have:=G.inB hx;omega
   ·split at hx
    ·cases hx
    ·rw[List.mem_singleton.1 hx]
     have:=c2k hn16 (gI (nowL st) n o bl f)
     have h2:(wIno (n:Int) (gI (nowL st) n o bl f)).pos=1+(n:Int):=rfl
     omega
theorem c7z{st:St}(Gd:Good st)(s:ByteArray)(bl:List Int)(hbl:∀z∈bl,0≤z∧z<256):Good (appendV st s bl).2:=by
 unfold appendV
 split
 ·exact Gd
 ·exact c2j Gd s _ bl hbl
end lk
namespace lk
set_option maxRecDepth 100000
open rows
open sec
open ly
open pa
open al
open fs
open dsk (St)
structure Mc (ss:List (List Int)) (a k:Nat) (fn dn:List (List Int)) (x:List Int) (d:Int):Prop where
 fit0:Fit ss
 ha:a<24
 hk:k<24
 used0:(entAt ss (a:Int)).used=true
 free:k=a∨(entAt ss (k:Int)).used=false
 fnN:∀y∈fn,isNm y=true
 fnW:lookG ss 0 fn=((entAt ss (a:Int)).target,0)
 dnN:∀y∈dn++[x],isNm y=true
 dnW:lookG ss 0 dn=(d,0)
 dk:(inoAt ss d).kind=2
 no:findO ss d (strOfNums x)=none
 deep:(inoAt ss (entAt ss (a:Int)).target).kind=2→¬fn <+: dn
theorem Mc.right{ss:List (List Int)}{a k:Nat}{fn dn:List (List Int)}{x:List Int}{d:Int}(M:Mc ss a k fn dn x d):rightE (mvX ss a d x)=true:=by
 have hx:isNm x=true:=M.dnN x (by simp)
 have hnm:nameB (strOfNums x)=true:=by rw[b1z,a1u (a3s hx)];exact hx
 have hu:=a1b M.used0
 have hd:=c7o M.dk
 rw[a1t rfl]
 simp only[Bool.and_eq_true,decide_eq_true_eq]
 exact⟨⟨⟨⟨hd.1,hd.2⟩,hu.2.2.1⟩,hu.2.2.2.1⟩,hnm⟩
theorem Mc.apart{ss:List (List Int)}{a k:Nat}{fn dn:List (List Int)}{x:List Int}{d:Int}(M:Mc ss a k fn dn x d):¬fn <+: dn:=by
 by_cases h2:(inoAt ss (entAt ss (a:Int)).target).kind=2
 ·exact M.deep h2
 ·rintro⟨r,rfl⟩
  have h:=M.dnW
  rw[a7x,M.fnW,if_pos rfl] at h
  cases r with
  | nil =>
   have:(entAt ss (a:Int)).target=d:=congrArg Prod.fst h
   rw[this] at h2
   exact h2 M.dk
  | cons y r =>
   rw[b4a h2] at h
   exact absurd (show (6:Int)=0 from congrArg Prod.snd h) (by decide)
theorem Mc.used{ss:List (List Int)}{a k:Nat}{fn dn:List (List Int)}{x:List Int}{d:Int}(M:Mc ss a k fn dn x d){j:Nat}(h:(entAt (movedL ss a k (mvX ss a d x)) (j:Int)).used=true) :
  (j=k∧entAt (movedL ss a k (mvX ss a d x)) (j:Int)=mvX ss a d x)∨(j≠k∧j≠a∧entAt (movedL ss a k (mvX ss a d x)) (j:Int)=entAt ss (j:Int)∧(entAt ss (j:Int)).used=true):=by
 have hE:=b1i M.fit0.len M.ha M.hk M.right (j:Int)
 by_cases e:j=k
 ·subst e
  rw[if_pos rfl] at hE
  exact Or.inl ⟨rfl,hE⟩
 ·rw[if_neg (by omega)] at hE
  by_cases e2:j=a
  ·subst e2
   rw[if_pos rfl] at hE
   rw[hE] at h
   cases h
  ·rw[if_neg (by omega)] at hE
   exact Or.inr ⟨e,e2,hE,by rw[hE] at h;exact h⟩
theorem Mc.kept{ss:List (List Int)}{a k:Nat}{fn dn:List (List Int)}{x:List Int}{d:Int}(M:Mc ss a k fn dn x d){j:Nat}(hu:(entAt ss (j:Int)).used=true)(hj:j≠a):j≠k∧entAt (movedL ss a k (mvX ss a d x)) (j:Int)=entAt ss (j:Int):=by
 have hjk:j≠k:=fun e=>by
  subst e
  rcases M.free with h|h
  ·exact hj h
  ·rw[h] at hu;cases hu
 refine⟨hjk,?_⟩
 rw[b1i M.fit0.len M.ha M.hk M.right,if_neg (by omega),if_neg (by omega)]
theorem Mc.new{ss:List (List Int)}{a k:Nat}{fn dn:List (List Int)}{x:List Int}{d:Int}(M:Mc ss a k fn dn x d):entAt (movedL ss a k (mvX ss a d x)) (k:Int)=mvX ss a d x:=by
 rw[b1i M.fit0.len M.ha M.hk M.right,if_pos rfl]
theorem Mc.fit{ss:List (List Int)}{a k:Nat}{fn dn:List (List Int)}{x:List Int}{d:Int}(M:Mc ss a k fn dn x d):Fit (movedL ss a k (mvX ss a d x)):=by
 have F:=M.fit0
 have hI:=fun j=>a8b F.len M.ha M.hk (mvX ss a d x) j
 have hno:=(a8r F).1 M.no
 refine⟨by rw[c6v];exact F.len,c5p F.secs _ _ _,by rw[hI];exact F.root,fun u v hu hv h1 h2 h3 => ?_,fun u hu h1 => ?_,fun u v hu hv h1 h2 h3 h4 => ?_⟩
 ·rcases M.used h1 with⟨e1,g1⟩|⟨e1,e1',g1,u1⟩<;>rcases M.used h2 with⟨e2,g2⟩|⟨e2,e2',g2,u2⟩<;>rw[g1,g2] at h3
  ·rw[e1,e2]
  ·exact absurd (F.tgt a v M.ha hv M.used0 u2 h3) (fun e=>e2' e.symm)
  ·exact absurd (F.tgt u a hu M.ha u1 M.used0 h3) e1'
  ·exact F.tgt u v hu hv u1 u2 h3
 ·rw[hI]
  rcases M.used h1 with⟨e1,g1⟩|⟨e1,e1',g1,u1⟩<;>rw[g1]
  ·exact F.live a M.ha M.used0
  ·exact F.live u hu u1
 ·rcases M.used h1 with⟨e1,g1⟩|⟨e1,e1',g1,u1⟩<;>rcases M.used h2 with⟨e2,g2⟩|⟨e2,e2',g2,u2⟩<;>rw[g1,g2] at h3 h4
  ·rw[e1,e2]
  ·exact absurd h4.symm (hno v hv u2 h3.symm)
  ·exact absurd h4 (hno u hu u1 h3)
  ·exact F.uniq u v hu hv u1 u2 h3 h4
theorem Mc.stay{ss:List (List Int)}{a k:Nat}{fn dn:List (List Int)}{x:List Int}{d:Int}(M:Mc ss a k fn dn x d) :
  ∀(l:Nat) (p:List (List Int)) (m:Int),p.length≤l→(∀y∈p,isNm y=true)→lookG ss 0 p=(m,0)→¬fn <+: p→lookG (movedL ss a k (mvX ss a d x)) 0 p=(m,0):=by
 intro l
 induction l with
 | zero =>
  intro p m hl _ h _
  obtain rfl:p=[]:=List.eq_nil_of_length_eq_zero (by omega)
  exact h
 | succ l ih =>
  intro p m hl hp h hno
  rcases List.eq_nil_or_concat p with rfl|⟨p',y,rfl⟩
  ·exact h
  ·rw[List.concat_eq_append] at *
   obtain⟨j,hj,hju,hpp,hd,hn,ht⟩:=a4l M.fit0 h
   have hja:j≠a:=fun e=>by
    subst e
    have:=b9s M.fit0 fn.length fn (p'++[y]) m (Nat.le_refl _) M.fnN hp (by rw[M.fnW,ht]) h
    exact hno (by rw[this];exact List.prefix_refl _)
   obtain⟨_,e⟩:=M.kept hju hja
   have h1:=ih p' _ (by simp at hl;omega) (fun z hz=>hp z (List.mem_append_left _ hz)) hpp (fun hf=>hno (hf.trans (List.prefix_append _ _)))
   have h2:=b6y M.fit (p:=p') (x:=y) (k:=j) hj (by rw[e];exact hju) (by rw[e];exact h1) (by rw[e,a8b M.fit0.len M.ha M.hk];exact hd) (by rw[e];exact hn)
   rw[e,ht] at h2
   exact h2
theorem Mc.reach{ss:List (List Int)}{a k:Nat}{fn dn:List (List Int)}{x:List Int}{d:Int}(M:Mc ss a k fn dn x d){m:Int}(h:Reach ss m):Reach (movedL ss a k (mvX ss a d x)) m:=by
 have hI:=fun j=>a8b M.fit0.len M.ha M.hk (mvX ss a d x) j
 have hd:Reach (movedL ss a k (mvX ss a d x)) d:=a6o M.fit dn 0 d .root (M.stay dn.length dn d (Nat.le_refl _) (fun y hy=>M.dnN y (List.mem_append_left _ hy)) M.dnW M.apart)
 induction h with
 | root=>exact .root
 | step j hj hl hp ih =>
  have hu:=a2c hl
  by_cases e:j=a
  ·subst e
   have h2:Reach (movedL ss j k (mvX ss j d x)) (entAt (movedL ss j k (mvX ss j d x)) (k:Int)).target := .step k M.hk (by
    rw[linkB,M.new,kindAt,kindAt,hI,hI]
    show (true && (decide ((inoAt ss d).kind=2) && !decide ((inoAt ss (entAt ss (j:Int)).target).kind=0)))=true
    rw[decide_eq_true M.dk,decide_eq_false (M.fit0.live j hj hu)]
    rfl) (by rw[M.new];exact hd)
   rw[M.new] at h2
   exact h2
  ·obtain⟨_,e2⟩:=M.kept hu e
   rw[← e2]
   refine .step j hj ?_ (by rw[e2];exact ih)
   rw[linkB,e2,kindAt,kindAt,hI,hI]
   exact hl
theorem b4k{ss:List (List Int)}(C:CI ss){a k:Nat}{fn dn:List (List Int)}{x:List Int}{d:Int}(M:Mc ss a k fn dn x d):CI (movedL ss a k (mvX ss a d x)):=by
 have hI:=fun j=>a8b M.fit0.len M.ha M.hk (mvX ss a d x) j
 refine⟨M.fit,b4n C.blk (fun j=>if j=k then a else j) (fun j hj hu hpos => ?_) (fun u v hu hv h1 h2 _ _ e => ?_),?_,fun j hj hu => ?_⟩
 ·rcases M.used hu with⟨e1,g1⟩|⟨e1,e1',g1,u1⟩
  ·subst e1
   rw[if_pos rfl,g1]
   exact⟨M.ha,M.used0,by rw[hI];rfl⟩
  ·rw[if_neg e1,g1]
   exact⟨hj,u1,by rw[hI]⟩
 ·replace e:(if u=k then a else u)=(if v=k then a else v):=e
  rcases M.used h1 with⟨e1,g1⟩|⟨e1,e1',g1,u1⟩<;>rcases M.used h2 with⟨e2,g2⟩|⟨e2,e2',g2,u2⟩
  ·rw[e1,e2]
  ·rw[if_pos e1,if_neg e2] at e;exact absurd e.symm e2'
  ·rw[if_neg e1,if_pos e2] at e;exact absurd e e1'
  ·rw[if_neg e1,if_neg e2] at e;exact e
 ·unfold movedL
  split
  ·exact a8p M.fit0.len M.ha M.right C.even
  ·exact a8p (by rw[a4d];exact M.fit0.len) M.ha a3u (a8p M.fit0.len M.hk M.right C.even)
 ·rcases M.used hu with⟨e1,g1⟩|⟨e1,e1',g1,u1⟩<;>rw[g1]
  ·exact⟨M.reach (a6o M.fit0 dn 0 d .root M.dnW),by rw[kindAt,hI];exact M.dk⟩
  ·obtain⟨w1,w2⟩:=C.way j hj u1
   exact⟨M.reach w1,by rw[kindAt,hI];exact w2⟩
theorem d4e{ss:List (List Int)}(F:Fit ss){s:ByteArray}{dn:List (List Int)}{x:List Int}{d:Int}(P:Spt ss s dn x d){k:Nat}(h:findO ss d (strOfNums x)=some k):lookG ss 0 (dn++[x])=((entAt ss (k:Int)).target,0):=by
 rw[a7x,P.way,if_pos rfl,a8x P.dir h];rfl
theorem c7i{st:St}(G:Good st)(s u:ByteArray):Good (renameV st s u).2:=by
 obtain⟨C,hs⟩:=G
 have F:=C.fit
 unfold renameV
 simp only
 by_cases p1:errP (bys s)=0
 case neg=>rw[if_pos p1];exact⟨C,hs⟩
 rw[if_neg (a9k p1)]
 by_cases p2:errP (bys u)=0
 case neg=>rw[if_pos p2];exact⟨C,hs⟩
 rw[if_neg (a9k p2)]
 by_cases h0:(placeV (nowL st) s).2=0
 case neg=>rw[if_pos h0];exact⟨C,hs⟩
 rw[if_neg (a9k h0)]
 obtain⟨dn,x,d,P,hp⟩:=a8q s h0
 rw[hp]
 cases hf:findO (nowL st) d (strOfNums x) with
 | none=>exact⟨C,hs⟩
 | some a =>
  obtain⟨ha,hau,_,_⟩:=(a3j F).1 hf
  have hw:=d4e F P hf
  simp only[Option.getD_some,Option.isSome_some,Bool.true_eq_false,if_false]
  by_cases h1:(placeV (nowL st) u).2=0
  case neg=>rw[if_pos h1];exact⟨C,hs⟩
  rw[if_neg (a9k h1)]
  obtain⟨dm,y,c,Q,hq⟩:=a8q u h1
  rw[hq]
  simp only
  have hdp:deeperB s u=(decide (dn++[x] <+: dm++[y]) || decide ((dn++[x]).length<(dm++[y]).length)):=by rw[P.path,Q.path,c3p P.names Q.names P.few Q.few]
  by_cases hsame:s=u∨((findO (nowL st) c (strOfNums y)).isSome=true∧(((findO (nowL st) c (strOfNums y)).getD 0:Nat):Int)=(a:Int))
  ·rw[if_pos hsame];exact⟨C,hs⟩
  ·rw[if_neg hsame]
   by_cases hdd:(inoAt (nowL st) (entAt (nowL st) (a:Int)).target).kind=2∧deeperB s u=true
   ·rw[if_pos (by rw[decide_eq_true_eq];exact hdd)]
    exact⟨C,hs⟩
   ·rw[if_neg (by rw[decide_eq_true_eq];exact hdd)]
    have hdeep:(inoAt (nowL st) (entAt (nowL st) (a:Int)).target).kind=2→¬(dn++[x]) <+: dm:=fun h2=>by
     have h3:¬deeperB s u=true:=fun h=>hdd ⟨h2,h⟩
     rw[hdp,Bool.or_eq_true,decide_eq_true_eq,decide_eq_true_eq] at h3
     exact fun h=>h3 (Or.inl (h.trans (List.prefix_append _ _)))
    cases hg:findO (nowL st) c (strOfNums y) with
    | some b =>
     obtain⟨hb,hbu,_,_⟩:=(a3j F).1 hg
     simp only[Option.getD_some,Option.isSome_some,decide_eq_true_eq,if_true]
     by_cases hk2:(inoAt (nowL st) (entAt (nowL st) (a:Int)).target).kind=2∨(inoAt (nowL st) (entAt (nowL st) (b:Int)).target).kind=2
     ·rw[if_pos hk2];exact⟨C,hs⟩
     ·rw[if_neg hk2]
      have hab:a≠b:=fun e=>hsame (Or.inr (by rw[hg];exact⟨rfl,by rw[e];rfl⟩))
      obtain⟨st',g1,g2,g3⟩:=b3s hs (wEnt (b:Int) ⟨true,c,strOfNums y,(entAt (nowL st) (a:Int)).target⟩ c) (wEnt (a:Int) ent0 d) (b0x hb _ _) (b0x ha _ _)
      rw[g1]
      have hno1:∀z:Nat,z<24→(entAt (nowL st) (z:Int)).used=true→(entAt (nowL st) (z:Int)).parent≠(entAt (nowL st) (b:Int)).target:=fun z hz hzu e=>hk2 (Or.inr (full_of C hz hzu e).1)
      have C1:=b2m C hb hno1
      have hE1:=fun z=>a5y F.len hb z
      have hea:entAt (setE (nowL st) b ent0) (a:Int)=entAt (nowL st) (a:Int):=by rw[hE1,if_neg (by omega)]
      have M:Mc (setE (nowL st) b ent0) a b (dn++[x]) dm y c:={
       fit0:=C1.fit
       ha:=ha
       hk:=hb
       used0:=by rw[hea];exact hau
       free:=Or.inr (by rw[hE1,if_pos rfl];rfl)
       fnN:=P.names
       fnW:=by rw[hea];exact c1p F hb hbu hno1 _ _ _ (Nat.le_refl _) hw (fun e=>hab (F.tgt a b ha hb hau hbu e))
       dnN:=Q.names
       dnW:=c1p F hb hbu hno1 _ _ _ (Nat.le_refl _) Q.way (fun e=>hk2 (Or.inr (by rw[← e];exact Q.dir)))
       dk:=by rw[a2s F.len hb];exact Q.dir
       no:=(a8r C1.fit).2 fun z hz h1 h2 h3=>by
        by_cases ez:z=b
        ·subst ez
         rw[hE1,if_pos rfl] at h1
         cases h1
        ·rw[hE1,if_neg (by omega)] at h1 h2 h3
         have:=(a3j F).2 ⟨hz,h1,h2,h3⟩
         rw[hg] at this
         exact ez (Option.some.inj this).symm
       deep:=fun h2=>absurd (by rw[hea,a2s F.len hb] at h2;exact h2) (fun h=>hk2 (Or.inl h)) }
      have g4:nowL st'=movedL (setE (nowL st) b ent0) a b (mvX (setE (nowL st) b ent0) a c y):=by
       rw[g3,movedL,if_neg (fun e=>hab e.symm),mvX,hea,a7m,a7m]
       unfold setE
       rw[List.set_set]
       rfl
      refine⟨?_,g2⟩
      show CI (nowL st')
      rw[g4]
      exact b4k C1 M
    | none =>
     simp only[Option.isSome_none,Bool.false_eq_true,if_false]
     obtain⟨k,hk⟩:=b8k F
     obtain⟨k24,ku⟩:=b5l hk
     have mk:∀k,k<24→(k=a∨(entAt (nowL st) (k:Int)).used=false)→Mc (nowL st) a k (dn++[x]) dm y c:=fun k hk hfr=>{
      fit0:=F
      ha:=ha
      hk:=hk
      used0:=hau
      free:=hfr
      fnN:=P.names
      fnW:=hw
      dnN:=Q.names
      dnW:=Q.way
      dk:=Q.dir
      no:=hg
      deep:=hdeep }
     by_cases hdc:d=c
     ·rw[if_pos hdc]
      obtain⟨st',g1,g2,g3⟩:=a4c [wEnt (a:Int) ⟨true,c,strOfNums y,(entAt (nowL st) (a:Int)).target⟩ c] hs (fun z hz=>by rw[List.mem_singleton.1 hz];exact b0x ha _ _)
      rw[g1]
      refine⟨?_,g2⟩
      show CI (nowL st')
      have g4:nowL st'=movedL (nowL st) a a (mvX (nowL st) a c y):=by
       rw[g3,movedL,if_pos rfl,mvX,setE]
       show (nowL st).set (wEnt (a:Int) _ c).pos.toNat _=_
       rw[a7m];rfl
      rw[g4]
      exact b4k C (mk a ha (Or.inl rfl))
     ·rw[if_neg hdc,hk]
      simp only
      have hka:k≠a:=fun e=>by
       subst e
       rw[hau] at ku;cases ku
      obtain⟨st',g1,g2,g3⟩:=b3s hs (wEnt (k:Int) ⟨true,c,strOfNums y,(entAt (nowL st) (a:Int)).target⟩ c) (wEnt (a:Int) ent0 d) (b0x k24 _ _) (b0x ha _ _)
      rw[g1]
      refine⟨?_,g2⟩
      show CI (nowL st')
      have g4:nowL st'=movedL (nowL st) a k (mvX (nowL st) a c y):=by
       rw[g3,movedL,if_neg hka,mvX,a7m,a7m]
       rfl
      rw[g4]
      exact b4k C (mk k k24 (Or.inr ku))
end lk
namespace lk
set_option maxRecDepth 100000
open rows
open sec
open ly
structure Fnd (ss:List (List Int)) (L:List Int):Prop where
 nd:L.Nodup
 all:∀z∈L,Reach ss z
 root:(0:Int)∈L
theorem d1p{m:Nat}:∀{L:List Int},L.Nodup→(∀z∈L,0≤z∧z<(m:Int))→L.length≤m:=by
 induction m with
 | zero =>
  intro L _ h
  cases L with
  | nil=>exact Nat.le_refl _
  | cons a l=>have:=h a List.mem_cons_self;omega
 | succ m ih =>
  intro L hn h
  by_cases hm:(m:Int)∈L
  ·have h2:=ih (hn.erase (m:Int)) fun z hz=>by
    have h3:=(hn.mem_erase_iff).1 hz
    have:=h z h3.2
    have:=h3.1
    omega
   rw[List.length_erase_of_mem hm] at h2
   omega
  ·have h2:=ih hn fun z hz=>by
    have:=h z hz
    have:z≠(m:Int):=fun e=>hm (e▸hz)
    omega
   omega
theorem Fnd.len{ss:List (List Int)}{L:List Int}(h:Fnd ss L):L.length≤16:=d1p h.nd fun z hz=>b5d (h.all z hz)
theorem Fnd.one(ss:List (List Int)):Fnd ss [0]:=⟨by simp,fun z hz=>by rw[List.mem_singleton.1 hz];exact .root,by simp⟩
theorem Fnd.more{ss:List (List Int)}{L:List Int}(h:Fnd ss L){k:Nat}(hk:k<24)(hl:linkB ss k=true)(hp:(entAt ss (k:Int)).parent∈L)(hn:(entAt ss (k:Int)).target∉L):Fnd ss (L++[(entAt ss (k:Int)).target]):=by
 refine⟨?_,fun z hz => ?_,List.mem_append_left _ h.root⟩
 ·rw[List.nodup_append]
  exact⟨h.nd,by simp,fun a ha b hb e=>hn (by rw[List.mem_singleton.1 hb] at e;exact e▸ha)⟩
 ·rcases List.mem_append.1 hz with hz|hz
  ·exact h.all z hz
  ·rw[List.mem_singleton.1 hz]
   exact .step k hk hl (h.all _ hp)
def OutN(ss:List (List Int))(L:List Int)(n:Int)(pre:List Nat):Prop:=∀k∈pre,linkB ss k=true→(entAt ss (k:Int)).parent=n→(entAt ss (k:Int)).target∈L
def OutU(ss:List (List Int))(L:List Int)(i:Nat):Prop:=∀j,j<i→∀k,k<24→linkB ss k=true→(entAt ss (k:Int)).parent=L.getD j 0→(entAt ss (k:Int)).target∈L
theorem OutN.nil(ss:List (List Int))(L:List Int)(n:Int):OutN ss L n []:=fun k hk=>by cases hk
theorem OutN.same{ss:List (List Int)}{L:List Int}{n:Int}{pre:List Nat}{k:Nat}(h:OutN ss L n pre)(hk:linkB ss k=true→(entAt ss (k:Int)).parent=n→(entAt ss (k:Int)).target∈L):OutN ss L n (pre++[k]):=fun j hj=>by
 rcases List.mem_append.1 hj with hj|hj
 ·exact h j hj
 ·rw[List.mem_singleton.1 hj];exact hk
theorem OutN.grow{ss:List (List Int)}{L:List Int}{n z:Int}{pre:List Nat}(h:OutN ss L n pre):OutN ss (L++[z]) n pre:=fun j hj hl hp=>List.mem_append_left _ (h j hj hl hp)
theorem OutU.grow{ss:List (List Int)}{L:List Int}{z:Int}{i:Nat}(h:OutU ss L i)(hi:i≤L.length):OutU ss (L++[z]) i:=fun j hj k hk hl hp=>List.mem_append_left _ (h j hj k hk hl (by
 rw[List.getD,List.getElem?_append_left (by omega)] at hp
 exact hp))
theorem OutU.next{ss:List (List Int)}{L:List Int}{i:Nat}(h:OutU ss L i)(hn:OutN ss L (L.getD i 0) (those (fun k=>(entAt ss (k:Int)).used) 24)):OutU ss L (i+1):=fun j hj k hk hl hp=>by
 by_cases e:j=i
 ·subst e
  exact hn k (those_mem.2 ⟨hk,a2c hl⟩) hl hp
 ·exact h j (by omega) k hk hl hp
theorem OutU.skip{ss:List (List Int)}{L:List Int}{i:Nat}(h:OutU ss L i)(hn:kindAt ss (L.getD i 0)≠2):OutU ss L (i+1):=fun j hj k hk hl hp=>by
 by_cases e:j=i
 ·subst e
  rw[linkB,Bool.and_eq_true,Bool.and_eq_true,decide_eq_true_eq,hp] at hl
  exact absurd hl.2.1 hn
 ·exact h j (by omega) k hk hl hp
theorem fnd_all{ss:List (List Int)}{L:List Int}(h:Fnd ss L)(ho:OutU ss L L.length){z:Int}(hz:Reach ss z):z∈L:=by
 induction hz with
 | root=>exact h.root
 | step k hk hl hp ih =>
  obtain⟨j,hj,e⟩:=List.mem_iff_getElem.1 ih
  exact ho j hj k hk hl (by rw[List.getD,List.getElem?_eq_getElem hj];exact e.symm)
theorem b1y:∀{A B:List Int},A.Pairwise (· < ·)→B.Pairwise (· < ·)→(∀z,z∈A↔z∈B)→A=B
 | [],[],_,_,_=>rfl
 | [],b::B,_,_,h=>by have:=(h b).2 List.mem_cons_self;cases this
 | a::A,[],_,_,h=>by have:=(h a).1 List.mem_cons_self;cases this
 | a::A,b::B,hA,hB,h=>by
  have hA2:=List.pairwise_cons.1 hA
  have hB2:=List.pairwise_cons.1 hB
  have e:a=b:=by
   rcases List.mem_cons.1 ((h a).1 List.mem_cons_self) with e|h1
   ·exact e
   ·rcases List.mem_cons.1 ((h b).2 List.mem_cons_self) with e|h2
    ·exact e.symm
    ·have:=hA2.1 b h2;have:=hB2.1 a h1;omega
  subst e
  rw[b1y hA2.2 hB2.2 fun z=>⟨fun hz => ?_,fun hz => ?_⟩]
  ·rcases List.mem_cons.1 ((h z).1 (List.mem_cons_of_mem _ hz)) with e|h1
   ·subst e;have:=hA2.1 z hz;omega
   ·exact h1
  ·rcases List.mem_cons.1 ((h z).2 (List.mem_cons_of_mem _ hz)) with e|h1
   ·subst e;have:=hB2.1 z hz;omega
   ·exact h1
def reachI(ss:List (List Int)):List Int:=(reachN ss).map fun n:Nat=>(n:Int)
theorem b3y{ss:List (List Int)}{z:Int}:z∈reachI ss↔Reach ss z:=by
 constructor
 ·intro h
  obtain⟨n,hn,rfl⟩:=List.mem_map.1 h
  exact(a6v (by omega)).1 (those_mem.1 hn).2
 ·intro h
  have h2:=b5d h
  refine List.mem_map.2 ⟨z.toNat,those_mem.2 ⟨by omega,?_⟩,by omega⟩
  rw[show ((z.toNat:Nat):Int)=z by omega]
  exact(a6v h2.1).2 h
theorem c0e(ss:List (List Int)):(reachI ss).Pairwise (· < ·):=by
 rw[reachI,List.pairwise_map]
 have h:(List.range 16).Pairwise (· < ·):=List.pairwise_lt_range
 exact(h.sublist (List.filter_sublist (p:=fun n:Nat=>reachB ss (n:Int)))).imp fun {a b} h=>by omega
theorem c3y{ss:List (List Int)}{L:List Int}(h:Fnd ss L)(ho:OutU ss L L.length):(L.mergeSort fun x y=>decide (x≤y))=reachI ss:=by
 refine b1y ?_ (c0e ss) fun z => ?_
 ·have hp:(L.mergeSort fun x y=>decide (x≤y)).Pairwise fun a b=>decide (a≤b)=true:=List.pairwise_mergeSort (fun a b c h1 h2=>by simp only[decide_eq_true_eq] at *;omega) (fun a b=>by simp only[Bool.or_eq_true,decide_eq_true_eq];omega) L
  have hn:(L.mergeSort fun x y=>decide (x≤y)).Nodup:=(List.mergeSort_perm L _).nodup_iff.2 h.nd
  exact hp.imp₂ (fun a b h1 h2=>by simp only[decide_eq_true_eq] at h1;omega) hn
 ·rw[List.mem_mergeSort,b3y]
  exact⟨h.all z,fnd_all h ho⟩
theorem c4y(ss:List (List Int)):(reachI ss).length≤16:=by rw[reachI,List.length_map];exact b0c _ _
theorem c3u{ss:List (List Int)}{z:Int}(h0:0≤z):(reachI ss).contains z=reachB ss z:=by
 rw[Bool.eq_iff_iff,List.contains_iff_mem,b3y,a6v h0]
end lk
namespace lk
set_option maxRecDepth 100000
open Go.ChangeShapes Go.WideShapes Go.ChangeAt Go.RowKit
open rows
open sec
open dsk (wf64)
open ly
open rng
attribute [local go_sem] Oper.semAt_some
theorem b0q(w:World)(d:Value)(ss:List (List Int))(i:Int)(h:Dk w d ss)(hi:wf64 i):Calls Tryz.prog 104 #[d,.int .i64 i] w (Rt w (.int .i64 (kindAt ss i))):=by
 have HI:=ι (a4a w d ss i h hi)
 have hf:=fun v=>fieldI0 _ (a0q h.secs.1 i) v
 have HK:Hid ((inoAt ss i).kind=kindAt ss i):=ι rfl
 generalize inoAt ss i=y at *
 rw[HK.out] at hf
 generalize aggI y=ay at *
 generalize kindAt ss i=kd at *
 clear h hi HK
 go_enter Tryz.func104,Tryz.ntmps104
 go_wp2_with (go_at_call 83;refine HI.out.mono ?_;rintro e w2 ⟨rfl,hb⟩;have B2:=ι hb;clear hb)
 go_ret
 exact⟨rfl,B2.out⟩
theorem a4v(p:Option Addr)(w:World):Calls Tryz.prog 105 #[.pointer p] w fun e w'=>e = .returned (.func (.func 150) #[] #[.pointer (some ⟨w.heap.size,0,none⟩)])∧w'=w.alloc (.cells #[.pointer p] 45):=by
 go_enter Tryz.func105,Tryz.ntmps105
 go_wp2
 go_ret
 exact⟨rfl,rfl⟩
set_option maxRecDepth 100000 in
set_option maxHeartbeats 2000000 in
theorem a4m(soft:Obj→Prop)(w0:World)(d:Value)(ss:List (List Int))(hd:Dk w0 d ss)(bd:Nat)(m:Nat→Obj→Prop)(w:World)(hb:Below w0.heap.size w0 w)(hbox:Go.Boxed w bd 45 d)(hZ:∀b o,m b o→w0.heap.size≤b)(hZd:∀v,¬m bd (.cells #[v] 45 (0,0))) :
  Seq Tryz.prog 150 #[.pointer (some ⟨bd,0,none⟩)] (fun k:Nat => #[.int .i64 (k:Int),aggE (entAt ss (k:Int))]) soft m (fun ys=>ys=those (entB ss) 24) (fun pre=>pre <+: those (entB ss) 24) w:=by
 intro l J Jx W hW _ hJ hJx hY h0
 have HJ:=ι hJ
 have HY:=ι hY
 have HZ:=ι hZ
 have HZD:=ι hZd
 have HB0:Hid (Below w0.heap.size w0 W):=ι (hb.trans (hW.mono hb.size))
 have HX0:Hid (Go.Boxed W bd 45 d):=ι ((hW.block _ hbox.lt).trans hbox)
 have H0:=ι h0
 have HE:=ι fun(k:Nat) (hk:k<24) w' (h:Below w0.heap.size w0 w')=>a8f w' d ss (k:Int) (hd.later h) (a0f (by omega))
 clear hJ hY hZ hZd hb hW hbox h0 hd hJx
 refine(callsIn_wide (n:=10)).1 (callsIn_of_wp Tryz.func150 rfl trivial ?_ rfl)
 simp only[Tryz.ntmps150,List.size_toArray,List.length_cons,List.length_nil,Nat.reduceAdd,Nat.reduceSub,Array.replicate_succ,Array.replicate_zero,List.push_toArray,List.append_toArray,List.nil_append,List.cons_append]
 gi_wp2
 gi_loopw [5] (fun kv wr=>∃k:Nat,k≤24∧kv = .int .i64 (k:Int)∧Hid (J (those (entB ss) k) wr)∧Hid (Below w0.heap.size w0 wr)∧Hid (Go.Boxed wr bd 45 d)∧Hid (W.heap.size≤wr.heap.size))
  (fun kv _=>24-(intOf kv).toNat)
 case atStart=>exact⟨0,Nat.zero_le _,rfl,H0,HB0,HX0,ι (Nat.le_refl _)⟩
 case round =>
  obtain⟨k,hk,rfl,HJS,HB,HX,HS⟩:=hrel
  by_cases hlt:k<24
  ·have hlt1:(k:Int)<24:=by omega
   have HEk:=ι (HE.out k hlt wr HB.out)
   have HYk:=ι fun W1 hj hs hp=>HY.out (those (entB ss) k) k W1 hj hs hp
   have cd:=HX.out.cell
   have hub:entB ss k=(entAt ss (k:Int)).used:=rfl
   generalize entAt ss (k:Int)=x at HEk HYk hub
   obtain⟨u,pa,nm,tg⟩:=x
   simp only at hub
   cases u with
   | false =>
    have HT:=ι (a4z hub)
    clear hub HYk
    gi_wp2_with (refine⟨trivial,?_⟩;gi_at_call 135;refine(callsIn_wide.2 HEk.out).mono ?_;rintro e w2 ⟨rfl,hb2⟩;have HB2:=ι hb2;clear hb2)
    all_goals
     refine⟨fun _ h=>(by cases h),?_⟩
     gi_wp2
     go_roundw
     case rel=>exact⟨k+1,by omega,by go_num,ι (by rw[HT.out];exact HJ.out _ _ _ HJS.out (Calm.of_below (a0a HB2.out _))),ι (HB.out.trans ((a0a HB2.out _).mono HB.out.size)),ι ((Calm.of_below (B:=0) (a0a HB2.out _)).boxed HX.out),ι (Nat.le_trans HS.out (a0a HB2.out _).size)⟩
     case measure=>simp[intOf];omega
   | true =>
    have HT:=ι (a3y hub)
    have HP:Hid (those (entB ss) k++[k] <+: those (entB ss) 24):=ι (by rw[← HT.out];exact a4s _ (by omega))
    clear hub
    have HYw:=ι fun w2 (hb2:Below wr.heap.size wr w2)=>a2d 9 (HYk.out (w2.alloc (.cells #[.bool true,.int .i64 pa,.string nm,.int .i64 tg] 170)) (HJ.out _ _ _ HJS.out (Calm.of_below (a0a hb2 _))) (Nat.le_trans HS.out (a0a hb2 _).size) HP.out)
    gi_wp2_with (refine⟨trivial,?_⟩;gi_at_call 135;refine(callsIn_wide.2 HEk.out).mono ?_;rintro e w2 ⟨rfl,hb2⟩;have HB2:=ι hb2;obtain⟨fn,tmps,assign,body,hy,hR⟩:=HYw.out w2 hb2;replace hy:(Instr.yield l #[.int .i64 (k:Int),.agg #[.bool true,.int .i64 pa,.string nm,.int .i64 tg]]).run Tryz.prog (w2.alloc (.cells #[.bool true,.int .i64 pa,.string nm,.int .i64 tg] 170)) = .ok (.round l fn tmps assign body) (w2.alloc (.cells #[.bool true,.int .i64 pa,.string nm,.int .i64 tg] 170)):=hy;clear hb2)
    refine hR.mono ?_
    have HBa:=ι (a0a HB2.out (.cells #[.bool true,.int .i64 pa,.string nm,.int .i64 tg] 170))
    rintro e W3 (⟨rfl,hJ3,hT3⟩|⟨rfl,hJx3,hT3⟩)
    ·have HJ3:=ι hJ3
     have HB3:Hid (Below w0.heap.size w0 W3):=ι ((HB.out.trans (HBa.out.mono HB.out.size)).trans (hT3.below (Nat.le_trans HB.out.size HBa.out.size) fun i o hi=>HZ.out i o hi))
     have HX3:Hid (Go.Boxed W3 bd 45 d):=ι (hT3.keep _ _ ((Calm.of_below (B:=0) HBa.out).boxed HX.out) (HZD.out _))
     have HS3:Hid (W.heap.size≤W3.heap.size):=ι (Nat.le_trans HS.out (Nat.le_trans HBa.out.size hT3.size))
     clear hy hR hJ3 hT3 HBa HB2
     gi_wp2
     go_roundw
     case rel=>exact⟨k+1,by omega,by go_num,ι (by rw[HT.out];exact HJ3.out),HB3,HX3,HS3⟩
     case measure=>simp[intOf];omega
    ·have HJX3:=ι hJx3
     clear hy hR hJx3 hT3 HBa HB2
     gi_wp2
     refine bodyPost_ret (results_none rfl _ _ _) rfl ?_
     exact⟨⟨_,rfl⟩,.inr ⟨_,HP.out,HJX3.out⟩⟩
  ·obtain rfl:k=24:=by omega
   gi_wp2
   go_end0
   exact⟨⟨_,rfl⟩,.inl ⟨_,rfl,HJS.out⟩⟩
end lk
namespace lk
set_option maxRecDepth 100000
open Go.ChangeShapes Go.WideShapes Go.ChangeAt Go.RowKit
open rows
open sec
open ly
open al
theorem tl_beq(a b:ByteArray):(a.toList == b.toList)=decide (a=b):=by
 by_cases h:a=b
 ·rw[h,decide_eq_true rfl];simp
 ·rw[decide_eq_false h,beq_eq_false_iff_ne]
  intro e
  exact h (by
   have h2:a.data.toList=b.data.toList:=by rw[← ByteArray.toList_eq,← ByteArray.toList_eq];exact e
   cases a;cases b
   simpa using h2)
theorem b1x(a b:Int):(a == b)=decide (a=b):=by
 by_cases h:a=b
 ·rw[h,decide_eq_true rfl];simp
 ·rw[decide_eq_false h,beq_eq_false_iff_ne];exact h
theorem d3v(ss:List (List Int))(k j:Nat):sameD ss k j=(((entAt ss (j:Int)).parent == (entAt ss (k:Int)).parent) && ((entAt ss (j:Int)).name.toList == (entAt ss (k:Int)).name.toList)):=by rw[sameD,b1x,tl_beq]
theorem d1s(ss:List (List Int))(k j:Nat):sameL ss k j=((entAt ss (j:Int)).target == (entAt ss (k:Int)).target):=by rw[sameL,b1x]
end lk
namespace lk
set_option maxRecDepth 100000
open Go.ChangeShapes Go.WideShapes Go.ChangeAt Go.RowKit
open rows
open sec
open dsk (a0c)
open ly
open rng
attribute [local go_sem] Oper.semAt_some
def softP(o:Obj):Prop:=∃cs fr,o = .cells cs 120 fr
theorem a0j(o:Obj)(h:softP o):o.isCells=true:=by
 obtain⟨cs,fr,rfl⟩:=h
 rfl
theorem a0s{cs:Array Value}{t:TypeId}{fr:Nat×Nat}(h:t≠120):¬softP (.cells cs t fr):=fun⟨cs',fr',e⟩=>by
 injection e with _ h2
 exact h h2
structure Keep (w0:World) (lo:Nat) (V1 V:World):Prop where
 below:Below w0.heap.size w0 V
 size:V1.heap.size≤V.heap.size
 cell:∀(k:Nat) (o:Obj),lo≤k→V1.heap[k]? = some o→o.isCells=true→¬softP o→V.heap[k]? = some o
theorem Keep.refl{w0:World}{lo:Nat}{V:World}(h:Below w0.heap.size w0 V):Keep w0 lo V V:=⟨h,Nat.le_refl _,fun k o _ h _ _=>h⟩
theorem Keep.calm{w0:World}{lo B:Nat}{V1 A C:World}(h:Keep w0 lo V1 A)(hc:rng.Calm B A C)(hB:w0.heap.size≤B):Keep w0 lo V1 C :=
 ⟨h.below.trans (hc.below hB h.below.size),Nat.le_trans h.size hc.size,fun k o hk hi ho hs=>hc.block k o (h.cell k o hk hi ho hs) (Or.inr ho)⟩
theorem Keep.later{w0:World}{lo:Nat}{V1 A C:World}(h:Keep w0 lo V1 A)(hb:Below A.heap.size A C):Keep w0 lo V1 C :=
 h.calm (rng.Calm.of_below (B:=w0.heap.size) hb) (Nat.le_refl _)
theorem Keep.turn{w0:World}{lo:Nat}{V1 A C:World}{m:Nat→Obj→Prop}(h:Keep w0 lo V1 A)(hT:Turn m A C)(h1:∀b o,m b o→w0.heap.size≤b)(h2:∀b o,m b o→b<lo∨softP o∨V1.heap.size≤b):Keep w0 lo V1 C :=
 ⟨h.below.trans (hT.below h.below.size h1),Nat.le_trans h.size hT.size,fun k o hk hi ho hs=>hT.keep k o (h.cell k o hk hi ho hs) fun hm=>by
  have hl:k<V1.heap.size:=(Array.getElem?_eq_some_iff.1 hi).1
  rcases h2 k o hm with h|h|h
  ·omega
  ·exact hs h
  ·omega⟩
theorem Keep.boxed{w0:World}{lo:Nat}{V1 V:World}(h:Keep w0 lo V1 V){b:Nat}{t:TypeId}{v:Value}(hb:Go.Boxed V1 b t v)(hl:lo≤b)(ht:t≠120):Go.Boxed V b t v:=h.cell b _ hl hb rfl (a0s ht)
def RowO(w:World)(g:Nat)(l:List Int):Prop:=w.heap[g]? = some (.cells (i64s l).toArray 228 (0,0))
theorem Keep.rowO{w0:World}{lo:Nat}{V1 V:World}(h:Keep w0 lo V1 V){g:Nat}{l:List Int}(hb:RowO V1 g l)(hl:lo≤g):RowO V g l:=h.cell g _ hl hb rfl (a0s (by decide))
theorem RowO.cell{w:World}{g:Nat}{l:List Int}(h:RowO w g l){k:Nat}(hk:k<l.length):w.cell? ⟨g,k,none⟩=some (.int .i64 (l.getD k 0)) :=
 a0c h k _ (by simp[i64s,List.getD,hk])
set_option maxRecDepth 100000 in
set_option maxHeartbeats 1600000 in
theorem c7n(w:World)(p:Option Addr)(ss:List (List Int))(k bd:Nat)(h:Dk w (.pointer p) ss)(hk:k<24)(hbx:Go.Boxed w bd 45 (.pointer p)) :
  Calls Tryz.prog 155 #[.int .i64 (k:Int),.pointer (some ⟨bd,0,none⟩)] w (Rt w (.bool (oddB ss k))):=by
 have HRD:=ι (dread w (.pointer p) ss (17+(k:Int)) h (a0f (by omega)))
 have HSJ:=ι (a1e h.secs.1 (17+(k:Int)))
 have HO:Hid (oddB ss k = !entOfB (secAt ss (17+(k:Int)))):=ι rfl
 have cd:=hbx.cell
 have hki:(k:Int)<24:=by omega
 obtain⟨j,hj⟩:∃j:Int,17+(k:Int)=j:=⟨_,rfl⟩
 rw[hj] at HRD HSJ HO
 generalize secAt ss j=s at *
 generalize (if 0≤j∧j<(ss.length:Int) then (0:Int) else 1)=er at *
 have HEF:=ι fun w'=>b2a s HSJ.out w'
 generalize entOfV s=y at *
 obtain⟨yu,yp,yn,yt⟩:=y
 clear h hbx
 go_enter Tryz.func155,Tryz.ntmps155
 go_wp2_with (first
  | (go_at_call 74;refine HRD.out.mono ?_;rintro e w2 ⟨rfl,hb⟩;have B2:=ι hb;clear hb)
  | (refine a0k rfl (.tmp 4) (.tmp 13) rfl rfl w2.heap.size s zero32 rfl rfl HSJ.out.1 (by decide) (a1n w2) ?_;intro w3 hA hB _;have A3:=ι hA;have B3:=ι (a0b B2.out ((a0a (Below.refl _ w2) _).trans hB));clear hA hB)
  | (refine a1v rfl (.tmp 4) rfl w2.heap.size rfl s HSJ.out.1 A3.out ?_)
  | (go_at_call 156;refine(HEF.out _).mono ?_;rintro e w4 ⟨rfl,hb⟩;have B4:=ι (a0a (a0b B3.out hb) (.cells #[.bool yu,.int .i64 yp,.string yn,.int .i64 yt] 170));clear hb))
 go_ret
 exact⟨by rw[HO.out]<;>rfl,B4.out⟩
def shrL(fl:List Int)(k:Nat):Bool:=decide (1≤k) && decide (1<fl.getD k 0)
theorem b6x(w:World)(l:List Int)(k g:Nat)(hl:l.length=25)(h1:1≤k)(hk:k<25)(hr:RowO w g l) :
  Calls Tryz.prog 164 #[.int .i64 (k:Int),.pointer (some ⟨g,0,none⟩)] w (Rt w (.bool (shrL l k))):=by
 have HS:Hid (shrL l k=decide (1<l.getD k 0)):=ι (by rw[shrL,decide_eq_true h1,Bool.true_and])
 have hc:=hr.cell (k:=k) (by omega)
 have hki:(k:Int)<25:=by omega
 generalize l.getD k 0=z at *
 clear hr
 go_enter Tryz.func164,Tryz.ntmps164
 go_wp2_with fail
 go_ret
 exact⟨by rw[HS.out]<;>rfl,Below.refl _ _⟩
set_option maxRecDepth 100000 in
set_option maxHeartbeats 2000000 in
theorem odd_seq(w0:World)(lo:Nat)(V1:World)(p:Option Addr)(ss:List (List Int))(hd:Dk w0 (.pointer p) ss)(bd:Nat)(hbd:Go.Boxed V1 bd 45 (.pointer p))(bf bl bb:Nat)(hbf:Go.Boxed V1 bf 3 (.int .i64 0))(hbl:Go.Boxed V1 bl 3 (.int .i64 23))(hbb:Go.Boxed V1 bb 131 (.func (.func 155) #[] #[.pointer (some ⟨bd,0,none⟩)]))(hlo:lo≤bf∧lo≤bl∧lo≤bb∧lo≤bd)(m:Nat→Obj→Prop)(w:World)(hk:Keep w0 lo V1 w)(h1:∀b o,m b o→w0.heap.size≤b)(h2:∀b o,m b o→b<lo∨softP o∨V1.heap.size≤b) :
  Seq Tryz.prog 195 #[.pointer (some ⟨bf,0,none⟩),.pointer (some ⟨bl,0,none⟩),.pointer (some ⟨bb,0,none⟩)] (fun k:Nat => #[.int .i64 (k:Int)]) softP m (fun ys=>ys=those (oddB ss) 24) (fun pre=>pre <+: those (oddB ss) 24) w:=by
 intro l J Jx W hW _ hJ hJx hY h0
 have HJ:=ι hJ
 have HY:=ι hY
 have H1:=ι h1
 have H2:=ι h2
 have HBF:=ι fun V (h:Keep w0 lo V1 V)=>h.boxed hbf hlo.1 (by decide)
 have HBL:=ι fun V (h:Keep w0 lo V1 V)=>h.boxed hbl hlo.2.1 (by decide)
 have HBB:=ι fun V (h:Keep w0 lo V1 V)=>h.boxed hbb hlo.2.2.1 (by decide)
 have HBD:=ι fun(k:Nat) (hk:k<24) V (h:Keep w0 lo V1 V)=>c7n V p ss k bd (hd.later h.below) hk (h.boxed hbd hlo.2.2.2 (by decide))
 clear hbd hd
 have HK0:Hid (Keep w0 lo V1 W):=ι (hk.calm (B:=w0.heap.size) ⟨hW.os,hW.tape,hW.output,hW.size,fun k o hi ho=>(hW.block k (Array.getElem?_eq_some_iff.1 hi).1).trans hi⟩ (Nat.le_refl _))
 have hcf:=(HBF.out W HK0.out).cell
 have hz:those (oddB ss) 0=[]:=by rfl
 have H0:Hid (J (those (oddB ss) 0) W):=ι (by rw[hz];exact h0)
 generalize hpr:(oddB ss)=pr at *
 clear hJ hY h1 h2 hbf hbl hbb hlo hk hW h0 hJx hz
 refine(callsIn_wide (n:=10)).1 (callsIn_of_wp Tryz.func195 rfl trivial ?_ rfl)
 simp only[Tryz.ntmps195,List.size_toArray,List.length_cons,List.length_nil,Nat.reduceAdd,Nat.reduceSub,Array.replicate_succ,Array.replicate_zero,List.push_toArray,List.append_toArray,List.nil_append,List.cons_append]
 gi_wp2
 gi_loopw [5] (fun kv wr=>∃k:Nat,0≤k∧k≤24∧kv = .int .i64 (k:Int)∧Hid (J (those pr k) wr)∧Hid (Keep w0 lo V1 wr)∧Hid (W.heap.size≤wr.heap.size))
  (fun kv _=>24-(intOf kv).toNat)
 case atStart=>exact⟨0,by omega,by omega,rfl,H0,HK0,ι (Nat.le_refl _)⟩
 case round =>
  clear hcf H0 HK0
  obtain⟨k,hk0,hk,rfl,HJS,HKP,HS⟩:=hrel
  have hcl:=(HBL.out wr HKP.out).cell
  by_cases hlt:k<24
  ·have hlt1:(k:Int)≤23:=by omega
   have hcb:=(HBB.out wr HKP.out).cell
   have HBAD:=ι (HBD.out k hlt wr HKP.out)
   have HYk:=ι fun W1 hj hs hp=>HY.out (those pr k) k W1 hj hs hp
   cases hb:pr k with
   | false =>
    rw[hb] at HBAD
    have HT:=ι (a4z hb)
    clear hb HYk
    gi_wp2_with (refine⟨trivial,?_⟩;gi_at_call 155;refine(callsIn_wide.2 HBAD.out).mono ?_;rintro e w2 ⟨rfl,hb2⟩;have HB2:=ι hb2;clear hb2)
    all_goals
     refine⟨fun _ h=>(by cases h),?_⟩
     gi_wp2
     go_roundw
     case rel=>exact⟨k+1,by omega,by omega,by go_num,ι (by rw[HT.out];exact HJ.out _ _ _ HJS.out (rng.Calm.of_below HB2.out)),ι (HKP.out.later HB2.out),ι (Nat.le_trans HS.out HB2.out.size)⟩
     case measure=>simp[intOf];omega
   | true =>
    rw[hb] at HBAD
    have HT:=ι (a3y hb)
    have HP:Hid (those pr k++[k] <+: those pr 24):=ι (by rw[← HT.out];exact a4s _ (by omega))
    clear hb
    have HYw:=ι fun w2 (hb2:Below wr.heap.size wr w2)=>a2d 9 (HYk.out w2 (HJ.out _ _ _ HJS.out (rng.Calm.of_below hb2)) (Nat.le_trans HS.out hb2.size) HP.out)
    gi_wp2_with (refine⟨trivial,?_⟩;gi_at_call 155;refine(callsIn_wide.2 HBAD.out).mono ?_;rintro e w2 ⟨rfl,hb2⟩;have HB2:=ι hb2;obtain⟨fn,tmps,assign,body,hy,hR⟩:=HYw.out w2 hb2;replace hy:(Instr.yield l #[.int .i64 (k:Int)]).run Tryz.prog w2 = .ok (.round l fn tmps assign body) w2:=hy;clear hb2)
    refine hR.mono ?_
    rintro e W3 (⟨rfl,hJ3,hT3⟩|⟨rfl,hJx3,hT3⟩)
    ·have HJ3:=ι hJ3
     have HK3:Hid (Keep w0 lo V1 W3):=ι ((HKP.out.later HB2.out).turn hT3 (fun b o h=>H1.out b o h) (fun b o h=>H2.out b o h))
     have HS3:Hid (W.heap.size≤W3.heap.size):=ι (Nat.le_trans HS.out (Nat.le_trans HB2.out.size hT3.size))
     clear hy hR hJ3 hT3 HB2
     gi_wp2
     go_roundw
     case rel=>exact⟨k+1,by omega,by omega,by go_num,ι (by rw[HT.out];exact HJ3.out),HK3,HS3⟩
     case measure=>simp[intOf];omega
    ·have HJX3:=ι hJx3
     clear hy hR hJx3 hT3 HB2
     gi_wp2
     refine bodyPost_ret (results_none rfl _ _ _) rfl ?_
     exact⟨⟨_,rfl⟩,.inr ⟨_,HP.out,HJX3.out⟩⟩
  ·obtain rfl:k=24:=by omega
   gi_wp2
   go_end0
   exact⟨⟨_,rfl⟩,.inl ⟨_,rfl,HJS.out⟩⟩
set_option maxRecDepth 100000 in
set_option maxHeartbeats 2000000 in
theorem c3w(w0:World)(lo:Nat)(V1:World)(fl:List Int)(hfl:fl.length=25)(g:Nat)(hg:RowO V1 g fl)(bf bl bb:Nat)(hbf:Go.Boxed V1 bf 3 (.int .i64 1))(hbl:Go.Boxed V1 bl 3 (.int .i64 24))(hbb:Go.Boxed V1 bb 131 (.func (.func 164) #[] #[.pointer (some ⟨g,0,none⟩)]))(hlo:lo≤bf∧lo≤bl∧lo≤bb∧lo≤g)(m:Nat→Obj→Prop)(w:World)(hk:Keep w0 lo V1 w)(h1:∀b o,m b o→w0.heap.size≤b)(h2:∀b o,m b o→b<lo∨softP o∨V1.heap.size≤b) :
  Seq Tryz.prog 195 #[.pointer (some ⟨bf,0,none⟩),.pointer (some ⟨bl,0,none⟩),.pointer (some ⟨bb,0,none⟩)] (fun k:Nat => #[.int .i64 (k:Int)]) softP m (fun ys=>ys=those (shrL fl) 25) (fun pre=>pre <+: those (shrL fl) 25) w:=by
 intro l J Jx W hW _ hJ hJx hY h0
 have HJ:=ι hJ
 have HY:=ι hY
 have H1:=ι h1
 have H2:=ι h2
 have HBF:=ι fun V (h:Keep w0 lo V1 V)=>h.boxed hbf hlo.1 (by decide)
 have HBL:=ι fun V (h:Keep w0 lo V1 V)=>h.boxed hbl hlo.2.1 (by decide)
 have HBB:=ι fun V (h:Keep w0 lo V1 V)=>h.boxed hbb hlo.2.2.1 (by decide)
 have HBD:=ι fun(k:Nat) (h1:1≤k) (hk:k<25) V (h:Keep w0 lo V1 V)=>b6x V fl k g hfl h1 hk (h.rowO hg hlo.2.2.2)
 have hp0:shrL fl 0=false:=rfl
 clear hg hfl
 have HK0:Hid (Keep w0 lo V1 W):=ι (hk.calm (B:=w0.heap.size) ⟨hW.os,hW.tape,hW.output,hW.size,fun k o hi ho=>(hW.block k (Array.getElem?_eq_some_iff.1 hi).1).trans hi⟩ (Nat.le_refl _))
 have hcf:=(HBF.out W HK0.out).cell
 have hz:those (shrL fl) 1=[]:=by rw[a4z hp0];rfl
 have H0:Hid (J (those (shrL fl) 1) W):=ι (by rw[hz];exact h0)
 clear hp0
 generalize hpr:(shrL fl)=pr at *
 clear hJ hY h1 h2 hbf hbl hbb hlo hk hW h0 hJx hz
 refine(callsIn_wide (n:=10)).1 (callsIn_of_wp Tryz.func195 rfl trivial ?_ rfl)
 simp only[Tryz.ntmps195,List.size_toArray,List.length_cons,List.length_nil,Nat.reduceAdd,Nat.reduceSub,Array.replicate_succ,Array.replicate_zero,List.push_toArray,List.append_toArray,List.nil_append,List.cons_append]
 gi_wp2
 gi_loopw [5] (fun kv wr=>∃k:Nat,1≤k∧k≤25∧kv = .int .i64 (k:Int)∧Hid (J (those pr k) wr)∧Hid (Keep w0 lo V1 wr)∧Hid (W.heap.size≤wr.heap.size))
  (fun kv _=>25-(intOf kv).toNat)
 case atStart=>exact⟨1,by omega,by omega,rfl,H0,HK0,ι (Nat.le_refl _)⟩
 case round =>
  clear hcf H0 HK0
  obtain⟨k,hk0,hk,rfl,HJS,HKP,HS⟩:=hrel
  have hcl:=(HBL.out wr HKP.out).cell
  by_cases hlt:k<25
  ·have hlt1:(k:Int)≤24:=by omega
   have hcb:=(HBB.out wr HKP.out).cell
   have HBAD:=ι (HBD.out k hk0 hlt wr HKP.out)
   have HYk:=ι fun W1 hj hs hp=>HY.out (those pr k) k W1 hj hs hp
   cases hb:pr k with
   | false =>
    rw[hb] at HBAD
    have HT:=ι (a4z hb)
    clear hb HYk
    gi_wp2_with (refine⟨trivial,?_⟩;gi_at_call 164;refine(callsIn_wide.2 HBAD.out).mono ?_;rintro e w2 ⟨rfl,hb2⟩;have HB2:=ι hb2;clear hb2)
    all_goals
     refine⟨fun _ h=>(by cases h),?_⟩
     gi_wp2
     go_roundw
     case rel=>exact⟨k+1,by omega,by omega,by go_num,ι (by rw[HT.out];exact HJ.out _ _ _ HJS.out (rng.Calm.of_below HB2.out)),ι (HKP.out.later HB2.out),ι (Nat.le_trans HS.out HB2.out.size)⟩
     case measure=>simp[intOf];omega
   | true =>
    rw[hb] at HBAD
    have HT:=ι (a3y hb)
    have HP:Hid (those pr k++[k] <+: those pr 25):=ι (by rw[← HT.out];exact a4s _ (by omega))
    clear hb
    have HYw:=ι fun w2 (hb2:Below wr.heap.size wr w2)=>a2d 9 (HYk.out w2 (HJ.out _ _ _ HJS.out (rng.Calm.of_below hb2)) (Nat.le_trans HS.out hb2.size) HP.out)
    gi_wp2_with (refine⟨trivial,?_⟩;gi_at_call 164;refine(callsIn_wide.2 HBAD.out).mono ?_;rintro e w2 ⟨rfl,hb2⟩;have HB2:=ι hb2;obtain⟨fn,tmps,assign,body,hy,hR⟩:=HYw.out w2 hb2;replace hy:(Instr.yield l #[.int .i64 (k:Int)]).run Tryz.prog w2 = .ok (.round l fn tmps assign body) w2:=hy;clear hb2)
    refine hR.mono ?_
    rintro e W3 (⟨rfl,hJ3,hT3⟩|⟨rfl,hJx3,hT3⟩)
    ·have HJ3:=ι hJ3
     have HK3:Hid (Keep w0 lo V1 W3):=ι ((HKP.out.later HB2.out).turn hT3 (fun b o h=>H1.out b o h) (fun b o h=>H2.out b o h))
     have HS3:Hid (W.heap.size≤W3.heap.size):=ι (Nat.le_trans HS.out (Nat.le_trans HB2.out.size hT3.size))
     clear hy hR hJ3 hT3 HB2
     gi_wp2
     go_roundw
     case rel=>exact⟨k+1,by omega,by omega,by go_num,ι (by rw[HT.out];exact HJ3.out),HK3,HS3⟩
     case measure=>simp[intOf];omega
    ·have HJX3:=ι hJx3
     clear hy hR hJx3 hT3 HB2
     gi_wp2
     refine bodyPost_ret (results_none rfl _ _ _) rfl ?_
     exact⟨⟨_,rfl⟩,.inr ⟨_,HP.out,HJX3.out⟩⟩
  ·obtain rfl:k=25:=by omega
   gi_wp2
   go_end0
   exact⟨⟨_,rfl⟩,.inl ⟨_,rfl,HJS.out⟩⟩
end lk
namespace lk
set_option maxRecDepth 100000
open Go.ChangeShapes Go.WideShapes Go.ChangeAt Go.RowKit
open rows
open sec
open ly
open al
def inC(tk:Bool)(b:Nat)(bl:List Int)(i:Nat):Nat:=if tk then cntL (b:Int) (bl.take i) else 0
theorem d1u(tk:Bool)(b:Nat)(bl:List Int){i:Nat}(h:i<bl.length):inC tk b bl (i+1)=inC tk b bl i+if ((bl.getD i 0 == (b:Int)) && tk) then 1 else 0:=by
 cases tk with
 | false=>rw[inC,inC];simp
 | true =>
  rw[inC,inC,if_pos rfl,if_pos rfl,cntL,cntL,List.take_succ_eq_append_getElem h,List.filter_append,List.length_append,Bool.and_true,b1x]
  have e:bl.getD i 0=bl[i]:=by simp[List.getD,h]
  rw[e]
  by_cases hx:bl[i]=(b:Int)
  ·simp[hx]
  ·simp[hx]
theorem d5e(tk:Bool)(b:Nat)(bl:List Int)(i:Nat):inC tk b bl i≤i:=by
 unfold inC;split
 ·refine Nat.le_trans (List.length_filter_le _ _) ?_
  rw[List.length_take];omega
 ·omega
theorem c6d(ss:List (List Int))(hs:Secs ss)(b:Nat):∀n,ownC ss b n≤4 * n
 | 0=>Nat.le_refl _
 | n+1=>by
  have h:=c6d ss hs b n
  have h2:=d5e (takenB ss (n:Int)) b (inoAt ss (n:Int)).b 4
  have h4:=a0q hs (n:Int)
  rw[inC,List.take_of_length_le (by omega)] at h2
  rw[ownC];omega
def prC(x:Nat×Nat):List Value:=[.int .i64 (x.1:Int),.int .i64 (x.2:Int)]
def prsC(l:List (Nat×Nat)):List Value:=(l.map prC).flatten
theorem c7q(l:List (Nat×Nat))(x:Nat×Nat):prsC (l++[x])=prsC l++prC x:=by simp[prsC]
theorem d3t(ss:List (List Int))(i m:Nat):(probK ss i m).length≤m:=by rw[probK,List.length_map];exact b0c _ _
theorem b8e(ss:List (List Int)):∀i,(probsU ss i).length≤25 * i
 | 0=>Nat.le_refl _
 | i+1=>by
  have h:=b8e ss i
  have h2:=d3t ss i (pLim i)
  have h3:pLim i≤25:=by unfold pLim;split<;>omega
  rw[probsU,List.length_append];omega
end lk
namespace lk
set_option maxRecDepth 100000
open Go.ChangeShapes Go.WideShapes Go.ChangeAt Go.RowKit
open rows
open sec
open dsk (a0d a0e)
open ly
open fs (a8e a3m a5e)
theorem ino_blk{ss:List (List Int)}(hs:Secs ss)(m:Int)(i:Nat):0≤(inoAt ss m).b.getD i 0∧(inoAt ss m).b.getD i 0<25:=by
 by_cases hi:i<need (inoAt ss m).size.toNat
 ·by_cases h:(inoAt ss m).kind=1
  ·have:=a3m h hi;omega
  ·rw[(a5e h).1] at hi
   exact absurd hi (Nat.not_lt_zero i)
 ·rw[a8e hs hi];omega
theorem fieldB(x:Ino)(hx:x.b.length=4)(w:World):(Instr.field 75 (aggI x) 2).run Tryz.prog w = .ok (.agg (i64s x.b).toArray) w:=by
 obtain⟨kd,sz,bl⟩:=x
 rcases bl with _|⟨a,_|⟨b,_|⟨c,_|⟨d,_|⟨e,r⟩⟩⟩⟩⟩<;>simp at hx
 kernel_rfl
def ownL(ss:List (List Int))(n:Nat):List Int:=(List.range 25).map fun b=>(ownC ss b n:Int)
def ownI(ss:List (List Int))(n:Nat)(bl:List Int)(i:Nat):List Int:=(List.range 25).map fun b=>((ownC ss b n+inC true b bl i:Nat):Int)
theorem c3b(ss:List (List Int))(n:Nat):(ownL ss n).length=25:=by simp[ownL]
theorem d3c(ss:List (List Int))(n:Nat)(bl:List Int)(i:Nat):(ownI ss n bl i).length=25:=by simp[ownI]
theorem c7b(ss:List (List Int))(n:Nat)(bl:List Int):ownI ss n bl 0=ownL ss n:=by
 simp[ownI,ownL,inC,cntL]
theorem ownL_no{ss:List (List Int)}{n:Nat}(h:takenB ss (n:Int)=false):ownL ss (n+1)=ownL ss n:=by
 simp[ownL,ownC,h]
theorem c6w{ss:List (List Int)}(hs:Secs ss){n:Nat}(h:takenB ss (n:Int)=true):ownI ss n (inoAt ss (n:Int)).b 4=ownL ss (n+1):=by
 have h4:=a0q hs (n:Int)
 simp only[ownI,ownL,ownC,h,inC,if_true]
 rw[List.take_of_length_le (by omega)]
theorem c6h(ss:List (List Int))(n:Nat)(bl:List Int)(i m:Nat)(hm:m<25):(ownI ss n bl i).getD m 0=((ownC ss m n+inC true m bl i:Nat):Int):=by
 simp[ownI,List.getD,hm]
theorem c6y{ss:List (List Int)}{n:Nat}{bl:List Int}{i m:Nat}(hi:i<bl.length)(hm:bl.getD i 0=(m:Int))(hm25:m<25) :
  ownI ss n bl (i+1)=(ownI ss n bl i).set m ((ownI ss n bl i).getD m 0+1):=by
 rw[c6h ss n bl i m hm25]
 refine List.ext_getElem (by simp[ownI]) fun j h1 h2 => ?_
 have hj:j<25:=by simpa [ownI] using h1
 rw[List.getElem_set]
 simp only[ownI,List.getElem_map,List.getElem_range]
 rw[d1u true j bl hi,hm]
 by_cases e:m=j
 ·subst e;simp;omega
 ·rw[if_neg e,show (((m:Int) == (j:Int))=false) from by rw[beq_eq_false_iff_ne];omega]
  simp
theorem ownL_at(ss:List (List Int))(n m:Nat)(hm:m<25):(ownL ss n).getD m 0=(ownC ss m n:Int):=by
 simp[ownL,List.getD,hm]
theorem d2i(ss:List (List Int)):those (shrL (ownL ss 16)) 25=those (shrB ss) 25:=by
 unfold those
 refine List.filter_congr fun b hb => ?_
 rw[shrL,shrB,ownL_at ss 16 b (List.mem_range.1 hb)]
 congr 1
 exact decide_eq_decide.2 (by omega)
def zero25:List Int:=List.replicate 25 0
theorem d0c:(Tryz.prog.info? 228).map (·.size)=some 25:=by kernel_rfl
theorem lit_o:(#[.int .i64 0,.int .i64 0,.int .i64 0,.int .i64 0,.int .i64 0,.int .i64 0,.int .i64 0,.int .i64 0,.int .i64 0,.int .i64 0,.int .i64 0,.int .i64 0,.int .i64 0,.int .i64 0,.int .i64 0,.int .i64 0,.int .i64 0,.int .i64 0,.int .i64 0,.int .i64 0,.int .i64 0,.int .i64 0,.int .i64 0,.int .i64 0,.int .i64 0]:Array Value)=(i64s zero25).toArray:=by kernel_rfl
theorem b4m(w:World):RowO (w.alloc (.cells #[.int .i64 0,.int .i64 0,.int .i64 0,.int .i64 0,.int .i64 0,.int .i64 0,.int .i64 0,.int .i64 0,.int .i64 0,.int .i64 0,.int .i64 0,.int .i64 0,.int .i64 0,.int .i64 0,.int .i64 0,.int .i64 0,.int .i64 0,.int .i64 0,.int .i64 0,.int .i64 0,.int .i64 0,.int .i64 0,.int .i64 0,.int .i64 0,.int .i64 0] 228)) w.heap.size zero25:=by
 rw[lit_o]
 exact heap_alloc_new _ _
theorem RowO.later{w w':World}{g:Nat}{l:List Int}(h:RowO w g l)(k:Below w.heap.size w w'):RowO w' g l:=(k.block g (Array.getElem?_eq_some_iff.1 h).1).trans h
theorem RowO.frozen{w:World}{g:Nat}{l:List Int}(h:RowO w g l)(k:Nat):w.frozen? ⟨g,k,none⟩=false:=a0d h k
theorem RowO.set{w:World}{g:Nat}{l:List Int}(h:RowO w g l)(k:Nat)(z:Int):RowO (w.setCell ⟨g,k,none⟩ (.int .i64 z)) g (l.set k z):=by
 unfold RowO
 rw[a0e h]
 congr 2
 simp[i64s,List.map_set]
theorem RowO.other{w:World}{g g2 k:Nat}{l:List Int}(h:RowO w g l)(hg:g≠g2)(z:Value):RowO (w.setCell ⟨g2,k,none⟩ z) g l:=(dsk.Touch.setCell (S:=fun i=>i=g2) (dsk.Touch.refl _ w) ⟨g2,k,none⟩ rfl z).block g (Array.getElem?_eq_some_iff.1 h).1 hg |>.trans h
theorem d1l(s:List Int):∀v∈i64s s,v.oneCell'=true:=by
 intro v hv
 obtain⟨z,_,rfl⟩:=List.mem_map.1 hv
 rfl
def aggO(l:List Int):Value := .agg (i64s l).toArray
theorem load_o{ops:Array Oper}{rest:List Oper}{o:Oper}{a:Act}{w:World}{Q:Exit→Act→World→Prop}(hgd:o.guard=none)(x:Operand)(ho:o.op = .load 228 x)
  (g:Nat) (hx:a.eval x = .pointer (some ⟨g,0,none⟩)) (l:List Int) (hs:l.length=25) (hg:RowO w g l)
  (h:wpList Tryz.prog ops Q rest (a.put o.dst (aggO l)) w):wpList Tryz.prog ops Q (o::rest) a w :=
 wpList_load_row hgd 228 x ho g hx 228 _ _ _ hg Tryz.underlying228 rfl (by rw[d0c];simp[i64s,hs]) h
theorem c7x{ops:Array Oper}{rest:List Oper}{o:Oper}{a:Act}{w:World}{Q:Exit→Act→World→Prop}(hgd:o.guard=none)(x y:Operand)(ho:o.op = .store 228 x y)(hd:o.dst=none)
  (g:Nat) (s old:List Int) (hx:a.eval x = .pointer (some ⟨g,0,none⟩)) (hy:a.eval y=aggO s) (hs:s.length=25) (hold:old.length=25) (hg:RowO w g old)
  (h:∀w',RowO w' g s→Below g w w'→wpList Tryz.prog ops Q rest a w'):wpList Tryz.prog ops Q (o::rest) a w:=by
 have hl:(i64s s).toArray.size=25:=by simp[i64s,hs]
 refine wpList_store_row hgd 228 x y ho g (i64s s).toArray hx hy 228 _ hg (by rw[d0c,hl]) (by simp[i64s,hs,hold]) (by simp only[List.all_toArray];exact List.all_eq_true.2 (d1l s)) ?_
 rw[hd]
 exact h _ (setRow_heap w g _ _ _ _ hg) ((Below.refl g w).trans ⟨rfl,rfl,rfl,by simp[World.setRow],fun k hk=>setRow_other w g k _ (by omega)⟩)
theorem ret_o{fn:Func}{p:Tmp}{R:Ending→World→Prop}{a:Act}{w:World}(h:fn.results = #[.cell p 228])(g:Nat)(s:List Int)(hp:a.tmps.getD p undef = .pointer (some ⟨g,0,none⟩))(hs:s.length=25)(hg:RowO w g s)
  (hd:a.defers=[]) (hR:R (.returned (aggO s)) w):bodyPost Tryz.prog fn R .ret a w :=
 bodyPost_ret (results_cell_row h a.tmps w g _ _ _ _ hp hg Tryz.underlying228 rfl (by rw[d0c];simp[i64s,hs])) hd hR
structure OAt (w:World) (l:List Int) (wr:World):Prop where
 r0:RowO wr w.heap.size zero25
 rb:RowO wr (w.heap.size+1) l
 below:Below w.heap.size w wr
theorem OAt.later{w:World}{l:List Int}{a b:World}(h:OAt w l a)(k:Below a.heap.size a b):OAt w l b:=⟨h.r0.later k,h.rb.later k,a0b h.below k⟩
theorem OAt.set{w:World}{l:List Int}{a:World}(h:OAt w l a)(k:Nat)(z:Int):OAt w (l.set k z) (a.setCell ⟨w.heap.size+1,k,none⟩ (.int .i64 z)) :=
 ⟨h.r0.other (by omega) _,h.rb.set k z,h.below.setCell (p:=⟨w.heap.size+1,k,none⟩) (by simp) _⟩
set_option maxRecDepth 100000 in
set_option maxHeartbeats 3200000 in
theorem c5d(w:World)(d:Value)(ss:List (List Int))(hd:Dk w d ss):Calls Tryz.prog 163 #[d] w (Rt w (aggO (ownL ss 16))):=by
 have hss:=hd.secs.1
 have HI:=ι fun(k:Nat) (hk:k<16) w' (h:Below w.heap.size w w')=>a4a w' d ss (k:Int) (hd.later h) (a0f (by omega))
 have HT:=ι fun(k:Nat) (hk:k<16) w' (h:Below w.heap.size w w')=>d0r w' d ss (k:Int) (hd.later h) (a0f (by omega))
 have HF:=ι fun k i=>ino_blk hss k i
 have HF4:=ι fun k=>a0q hss k
 have HOF:=ι fun n h=>c6w hss (n:=n) h
 have HLE:=ι fun b n=>c6d ss hss b n
 have HLN:=ι (c3b ss 16)
 have HNO:=ι fun n h=>ownL_no (ss:=ss) (n:=n) h
 clear hd hss
 have A0:=b4m w
 obtain⟨W1,hW1⟩:∃W1,w.alloc (.cells #[.int .i64 0,.int .i64 0,.int .i64 0,.int .i64 0,.int .i64 0,.int .i64 0,.int .i64 0,.int .i64 0,.int .i64 0,.int .i64 0,.int .i64 0,.int .i64 0,.int .i64 0,.int .i64 0,.int .i64 0,.int .i64 0,.int .i64 0,.int .i64 0,.int .i64 0,.int .i64 0,.int .i64 0,.int .i64 0,.int .i64 0,.int .i64 0,.int .i64 0] 228)=W1:=⟨_,rfl⟩
 have hz1:W1.heap.size=w.heap.size+1:=by rw[← hW1];simp
 have A1:=b4m W1
 obtain⟨W2,hW2⟩:∃W2,W1.alloc (.cells #[.int .i64 0,.int .i64 0,.int .i64 0,.int .i64 0,.int .i64 0,.int .i64 0,.int .i64 0,.int .i64 0,.int .i64 0,.int .i64 0,.int .i64 0,.int .i64 0,.int .i64 0,.int .i64 0,.int .i64 0,.int .i64 0,.int .i64 0,.int .i64 0,.int .i64 0,.int .i64 0,.int .i64 0,.int .i64 0,.int .i64 0,.int .i64 0,.int .i64 0] 228)=W2:=⟨_,rfl⟩
 have hz2:W2.heap.size=w.heap.size+2:=by rw[← hW2];simp[hz1]
 have b1:Below w.heap.size w W1:=by rw[← hW1];exact a0a (Below.refl _ _) _
 have b2:Below W1.heap.size W1 W2:=by rw[← hW2];exact a0a (Below.refl _ _) _
 have hz0:ownL ss 0=zero25:=by rw[ownL];rfl
 have F0:Hid (OAt w (ownL ss 0) W2):=ι ⟨by rw[hW1] at A0;exact A0.later b2,by rw[hW2,hz1] at A1;rw[hz0];exact A1,a0b b1 b2⟩
 clear b1 b2 A0 A1 hz0
 go_enter Tryz.func163,Tryz.ntmps163
 go_upto_region 2 with fail
 clear hW1 hW2 hz1 hz2
 go_wp2_with fail
 go_loopw [4,6,7] (fun _ _ kv wr=>∃k:Nat,k≤16∧kv = .int .i64 (k:Int)∧Hid (OAt w (ownL ss k) wr)) (fun _ _ kv _=>16-(intOf kv).toNat)
 case atStart=>exact⟨0,by omega,rfl,F0⟩
 case round =>
  obtain⟨k,hk,rfl,HN⟩:=hrel
  clear F0
  by_cases hlt:k<16
  ·have hlti:(k:Int)<16:=by omega
   have HIk:=ι (HI.out k hlt)
   have HTk:=ι (HT.out k hlt wr HN.out.below)
   cases ht:takenB ss (k:Int) with
   | false =>
    rw[ht] at HTk
    have HS:=ι (HNO.out k ht)
    clear ht HIk
    go_wp2_with (go_at_call 201;refine HTk.out.mono ?_;rintro e w1 ⟨rfl,hb⟩;have N1:=ι (HN.out.later hb);clear hb)
    go_roundw
    case rel=>exact⟨k+1,by omega,by go_num,by rw[HS.out];exact N1⟩
    case measure=>simp[intOf];omega
   | true =>
    rw[ht] at HTk
    have HS:=ι (HOF.out k ht)
    clear ht
    have HB:=ι (HF.out (k:Int))
    have HFD:=ι (fieldB (inoAt ss (k:Int)) (HF4.out (k:Int)))
    have HL4:Hid ((inoAt ss (k:Int)).b.length=4):=ι (HF4.out (k:Int))
    generalize inoAt ss (k:Int)=x at HIk HB HL4 HFD HS
    have hfd:=fun W=>HFD.out W
    go_wp2_with (first|(go_at_call 201;refine HTk.out.mono ?_;rintro e w1 ⟨rfl,hb⟩;have N1:=ι (HN.out.later hb);clear hb)|(go_at_call 83;refine(HIk.out w1 N1.out.below).mono ?_;rintro e w2 ⟨rfl,hb⟩;have N2:=ι (N1.out.later hb);clear hb))
    have HXB:=ι fun j hj h4 W=>index4 x.b j hj h4 W
    go_loopw [6,18] (fun _ jv wr=>∃j:Nat,j≤4∧jv = .int .i64 (j:Int)∧Hid (OAt w (ownI ss k x.b j) wr)) (fun _ jv _=>4-(intOf jv).toNat)
    case atStart=>exact⟨0,by omega,rfl,ι (by rw[c7b];exact N2.out)⟩
    case round =>
     obtain⟨j,hj,rfl,HNj⟩:=hrel
     clear N1 N2
     by_cases hltj:j<4
     ·have hltji:(j:Int)<4:=by omega
      have hjl:j<x.b.length:=by rw[HL4.out];exact hltj
      have hxb:=HXB.out j hjl hltj
      have hz:=HB.out j
      obtain⟨m,hm⟩:=Int.eq_ofNat_of_zero_le hz.1
      have hm24:m<25:=by omega
      have HZ:=ι (c6y (ss:=ss) (n:=k) hjl hm hm24)
      have hat:=c6h ss k x.b j m hm24
      have hle1:=HLE.out m k
      have hle2:=d5e true m x.b j
      rw[hm] at hxb
      have hmi:(m:Int)<25:=by omega
      have hcm:=HNj.out.rb.cell (k:=m) (by rw[d3c];exact hm24)
      have hfm:=HNj.out.rb.frozen m
      rw[hat] at hcm HZ
      have hz100:((ownC ss m k+inC true m x.b j:Nat):Int)≤200:=by omega
      generalize ownC ss m k+inC true m x.b j=z at *
      clear hz hm hat hle1 hle2
      go_wp2_with fail
      go_roundw
      case rel=>exact⟨j+1,by omega,by go_num,ι (by rw[HZ.out];exact HNj.out.set m _)⟩
      case measure=>simp[intOf];omega
     ·obtain rfl:j=4:=by omega
      go_wp2_with fail
      go_roundw
      case rel=>exact⟨k+1,by omega,by go_num,ι (by rw[← HS.out];exact HNj.out)⟩
      case measure=>simp[intOf];omega
  ·obtain rfl:k=16:=by omega
   have HR0:=ι HN.out.r0
   have HRB:=ι HN.out.rb
   have HBB:=ι HN.out.below
   go_wp2_with (first|(refine load_o rfl (.tmp 3) rfl (w.heap.size+1) rfl (ownL ss 16) HLN.out HRB.out ?_)|(refine c7x rfl (.tmp 2) (.tmp 28) rfl rfl w.heap.size (ownL ss 16) zero25 rfl rfl HLN.out (by decide) HR0.out ?_;intro w4 hA hB;have A4:=ι hA;have B4:=ι (HBB.out.trans hB);clear hA hB))
   exact ret_o rfl w.heap.size (ownL ss 16) rfl HLN.out A4.out rfl ⟨rfl,B4.out⟩
end lk
namespace lk
set_option maxRecDepth 100000
open Go.ChangeShapes Go.WideShapes Go.ChangeAt Go.RowKit
open rows
open sec
open ly
open rng
attribute [local go_sem] Oper.semAt_some
theorem a6t{p q:Nat→Bool}(h:∀k,q k=true→p k=true)(m:Nat):(those p m).filter q=those q m:=by
 rw[those,those,List.filter_filter]
 congr 1
 funext k
 cases hq:q k with
 | true=>rw[h k hq];rfl
 | false=>rfl
theorem b7v{ss:List (List Int)}(k:Nat)(h:dangB ss k=true):entB ss k=true:=by
 rw[dangB,Bool.and_eq_true] at h;exact h.1
theorem b7q{ss:List (List Int)}(k:Nat)(h:lostB ss k=true):entB ss k=true:=by
 rw[lostB,Bool.and_eq_true] at h;exact h.1
set_option maxHeartbeats 1600000 in
theorem c4z(w:World)(p:Option Addr)(ss:List (List Int))(k bd:Nat)(h:Dk w (.pointer p) ss)(hu:entB ss k=true)(hbx:Go.Boxed w bd 45 (.pointer p)) :
  Calls Tryz.prog 158 #[aggE (entAt ss (k:Int)),.pointer (some ⟨bd,0,none⟩)] w (Rt w (.bool (dangB ss k))):=by
 have HKD:=ι fun w' (hb:Below w.heap.size w w')=>b0q w' (.pointer p) ss (entAt ss (k:Int)).target (h.later hb) (by have:=a5j h.secs.1 (k:Int);exact a0f (by omega))
 have HD:Hid (dangB ss k=(kindAt ss (entAt ss (k:Int)).target == 0)):=ι (by rw[dangB,show (entAt ss (k:Int)).used=true from hu,b1x];rfl)
 generalize dangB ss k=db at *
 generalize entAt ss (k:Int)=x at *
 obtain⟨u,pa,nm,tg⟩:=x
 simp only at HKD HD
 generalize kindAt ss tg=kd at *
 have B1:=ι (a0a (Below.refl w.heap.size w) (.cells #[.bool u,.int .i64 pa,.string nm,.int .i64 tg] 170))
 have cd:=(hbx.alloc (.cells #[.bool u,.int .i64 pa,.string nm,.int .i64 tg] 170)).cell
 have HK1:=ι (HKD.out _ B1.out)
 clear h hu hbx HKD
 go_enter Tryz.func158,Tryz.ntmps158
 go_wp2_with (go_at_call 104;refine HK1.out.mono ?_;rintro e w2 ⟨rfl,hb⟩;have B2:=ι (a0b B1.out hb);clear hb)
 go_ret
 exact⟨by rw[HD.out]<;>rfl,B2.out⟩
set_option maxHeartbeats 1600000 in
theorem c3n(w:World)(p:Option Addr)(ss:List (List Int))(k bd br:Nat)(q:Option Addr)(n c:Nat)(rs:List Int)(h:Dk w (.pointer p) ss)(hu:entB ss k=true)(hbx:Go.Boxed w bd 45 (.pointer p))(hbr:Go.Boxed w br 31 (.slice q n c))(hr:Rd w 1 (.slice q n c) n (i64s rs))(hn:n≤1000)(hrs:∀z:Int,0≤z→z<16→rs.contains z=reachB ss z) :
  Calls Tryz.prog 159 #[aggE (entAt ss (k:Int)),.pointer (some ⟨br,0,none⟩),.pointer (some ⟨bd,0,none⟩)] w (Rt w (.bool (lostB ss k))):=by
 have HKD:=ι fun w' (hb:Below w.heap.size w w')=>b0q w' (.pointer p) ss (entAt ss (k:Int)).parent (h.later hb) (by have:=a5j h.secs.1 (k:Int);exact a0f (by omega))
 have HCT:=ι fun w' (hb:Below w.heap.size w w')=>a5t (entAt ss (k:Int)).parent q n c rs w' (hr.later hb) hn
 have HD:Hid (lostB ss k=(!rs.contains (entAt ss (k:Int)).parent || (kindAt ss (entAt ss (k:Int)).parent != 2))):=ι (by
  have e:=fs.a1b (ss:=ss) (k:=(k:Int)) hu
  rw[lostB,show (entAt ss (k:Int)).used=true from hu,hrs _ e.1 e.2.1,bne,b1x];rfl)
 generalize lostB ss k=db at *
 generalize entAt ss (k:Int)=x at *
 obtain⟨u,pa,nm,tg⟩:=x
 simp only at HKD HD HCT
 generalize kindAt ss pa=kd at *
 generalize rs.contains pa=ct at *
 have B1:=ι (a0a (Below.refl w.heap.size w) (.cells #[.bool u,.int .i64 pa,.string nm,.int .i64 tg] 170))
 have cd:=(hbx.alloc (.cells #[.bool u,.int .i64 pa,.string nm,.int .i64 tg] 170)).cell
 have cr:=(hbr.alloc (.cells #[.bool u,.int .i64 pa,.string nm,.int .i64 tg] 170)).cell
 have HK1:=ι (HKD.out _ B1.out)
 have HC1:=ι (HCT.out _ B1.out)
 clear h hu hbx hbr hr HKD HCT hrs
 cases ct with
 | false =>
  go_enter Tryz.func159,Tryz.ntmps159
  go_wp2_with (go_at_call 106;refine HC1.out.mono ?_;rintro e w2 ⟨rfl,hw⟩;obtain rfl:=hw.symm)
  go_ret
  exact⟨by rw[HD.out]<;>rfl,B1.out⟩
 | true =>
  go_enter Tryz.func159,Tryz.ntmps159
  go_wp2_with (first|(go_at_call 106;refine HC1.out.mono ?_;rintro e w2 ⟨rfl,hw⟩;obtain rfl:=hw.symm)|(go_at_call 104;refine HK1.out.mono ?_;rintro e w3 ⟨rfl,hb⟩;have B2:=ι (a0b B1.out hb);clear hb))
  go_ret
  exact⟨by rw[HD.out]<;>rfl,B2.out⟩
set_option maxRecDepth 100000 in
set_option maxHeartbeats 4000000 in
theorem d4t(w0:World)(p:Option Addr)(ss:List (List Int))(hd:Dk w0 (.pointer p) ss)(lo:Nat)(V1:World)(bc:Nat)(hbc:Go.Boxed V1 bc 45 (.pointer p))(bd bb:Nat)(hbd:Go.Boxed V1 bd 45 (.pointer p))(hbb:Go.Boxed V1 bb 225 (.func (.func 158) #[] #[.pointer (some ⟨bc,0,none⟩)]))(hlo:lo≤bd∧lo≤bb∧lo≤bc)(hlw:w0.heap.size≤lo)(m:Nat→Obj→Prop)(w:World)(hk:Keep w0 lo V1 w)(h1:∀b o,m b o→w0.heap.size≤b)(h2:∀b o,m b o→b<lo∨softP o∨V1.heap.size≤b) :
  Seq Tryz.prog 197 #[.pointer (some ⟨bd,0,none⟩),.pointer (some ⟨bb,0,none⟩)] (fun k:Nat => #[.int .i64 (k:Int)]) softP m (fun ys=>ys=those (dangB ss) 24) (fun pre=>pre <+: those (dangB ss) 24) w:=by
 intro l J Jx W hW hZW hJ hJx hY h0
 have HJ:=ι hJ
 have HJX:=ι hJx
 have HY:=ι hY
 have H1:=ι h1
 have H2:=ι h2
 have HZW:=ι hZW
 have HD:=ι hd
 have HLW:=ι hlw
 have HBD:=ι fun V (h:Keep w0 lo V1 V)=>h.boxed hbd hlo.1 (by decide)
 have HBB:=ι fun V (h:Keep w0 lo V1 V)=>h.boxed hbb hlo.2.1 (by decide)
 have HBA:=ι fun(k:Nat) (hu:entB ss k=true) V (h:Keep w0 lo V1 V)=>c4z V p ss k bc (hd.later h.below) hu (h.boxed hbc hlo.2.2 (by decide))
 clear hbc
 have hK0:Keep w0 lo V1 W:=hk.calm (B:=w0.heap.size) ⟨hW.os,hW.tape,hW.output,hW.size,fun k o hi ho=>(hW.block k (Array.getElem?_eq_some_iff.1 hi).1).trans hi⟩ (Nat.le_refl _)
 have hs0:=hK0.below.size
 have HV1:=ι hK0.size
 have HS0:=ι hs0
 have hb1:=a0a (a0a (Below.refl W.heap.size W) (.cells #[.func (.yield l) #[] #[]] 131)) (.cells #[.pointer p] 45)
 have hy1:=(Go.Boxed.new W 131 (.func (.yield l) #[] #[])).alloc (.cells #[.pointer p] 45)
 have hd1:=Go.Boxed.new (W.alloc (.cells #[.func (.yield l) #[] #[]] 131)) 45 (.pointer p)
 rw[World.size_alloc] at hd1
 have hsz:((W.alloc (.cells #[.func (.yield l) #[] #[]] 131)).alloc (.cells #[.pointer p] 45)).heap.size=W.heap.size+2:=by simp[World.size_alloc]
 have cd:(W.alloc (.cells #[.func (.yield l) #[] #[]] 131)).cell? ⟨bd,0,none⟩=some (.pointer p):=((HBD.out W hK0).alloc _).cell
 obtain⟨W2,hW2⟩:∃W2,(W.alloc (.cells #[.func (.yield l) #[] #[]] 131)).alloc (.cells #[.pointer p] 45)=W2:=⟨_,rfl⟩
 rw[hW2] at hb1 hy1 hd1 hsz
 have HK2:Hid (Keep w0 lo V1 W2):=ι (hK0.later hb1)
 have HY2:=ι hy1
 have HD2:=ι hd1
 have HSZ:=ι hsz
 have HJ2:Hid (J [] W2):=ι (hJ _ _ _ h0 (rng.Calm.of_below hb1))
 have HEU:=ι fun k h=>b7v (ss:=ss) k h
 have HPD:Hid ((those (entB ss) 24).filter (dangB ss)=those (dangB ss) 24):=ι (a6t (fun k h=>b7v k h) 24)
 generalize (dangB ss)=pp at *
 clear hJ hJx hY h1 h2 hbd hbb hlo hlw hk hW hZW hK0 hb1 hy1 hd1 hsz h0 hd hs0
 refine(callsIn_wide (n:=10)).1 (callsIn_of_wp_marks Tryz.func197 rfl trivial ?_ rfl)
 simp only[Tryz.ntmps197,List.size_toArray,List.length_cons,List.length_nil,Nat.reduceAdd,Nat.reduceSub,Array.replicate_succ,Array.replicate_zero,List.push_toArray,List.append_toArray,List.nil_append,List.cons_append]
 gi_wp2_with (refine⟨trivial,?_⟩;gi_at_call 105;refine(callsIn_wide.2 (a4v _ _)).mono ?_;rintro e w2 ⟨rfl,rfl⟩)
 try rw[hW2]
 clear hW2 cd
 have HWM:Hid (W.heap.size≤W2.heap.size):=ι (by have:=HSZ.out;omega)
 refine a1w (gf:=150) (lb := #[.pointer (some ⟨W.heap.size+1,0,none⟩)]) rfl (enters_of Tryz.func150 (by kernel_rfl) rfl)
  (a4m softP w0 (.pointer p) ss HD.out (W.heap.size+1) (fun b o=>b=W2.heap.size+1∨m b o) W2 HK2.out.below HD2.out (fun b o hb=>by
   have h1:=HSZ.out
   have h2:=HS0.out
   rcases hb with hb|hb
   ·omega
   ·exact H1.out b o hb) (fun v hb=>by
   have h1:=HSZ.out
   rcases hb with hb|hb
   ·omega
   ·rcases HZW.out _ _ hb with h|h
    ·omega
    ·exact a0s (by decide) h)) (fun b o h=>(HZW.out b o h).imp (fun h=>by have:=HSZ.out;omega) id) a0j (fun _=>rfl)
  (fun pre V=>J (pre.filter pp) V∧Go.Boxed V W.heap.size 131 (.func (.yield l) #[] #[])∧Keep w0 lo V1 V∧W.heap.size≤V.heap.size)
  (fun c pre V=>c = .ret∧Jx (pre.filter pp) V)
  (fun s A B h hc=>⟨HJ.out _ _ _ h.1 (hc.mono HWM.out),hc.boxed h.2.1,h.2.2.1.calm hc (by have:=HWM.out;have:=HS0.out;omega),Nat.le_trans h.2.2.2 hc.size⟩)
  (fun c s A B h hc=>⟨h.1,HJX.out _ _ _ h.2 (hc.mono HWM.out)⟩)
  ⟨HJ2.out,HY2.out,HK2.out,HWM.out⟩
  (fun pre k a' V=>(J (pre.filter pp) V∧Go.Boxed V W.heap.size 131 (.func (.yield l) #[] #[])∧Keep w0 lo V1 V∧W.heap.size≤V.heap.size)∧∃Bx,AtE V Bx (entAt ss (k:Int))∧a'={ tmps := #[.func (.yield l) #[] #[],.pointer (some ⟨bd,0,none⟩),.pointer (some ⟨bb,0,none⟩),.pointer (some ⟨W.heap.size,0,none⟩),.int .i64 (k:Int),.pointer (some ⟨Bx,0,none⟩),.pointer p,.func (.func 150) #[] #[.pointer (some ⟨W.heap.size+1,0,none⟩)],.int .i64 (k:Int),aggE (entAt ss (k:Int)),undef,undef,undef,undef,undef,undef,undef,undef,undef],defers:=[] })
  (fun s k a' A B h hc=>by
   obtain⟨h1,Bx,h2,h3⟩:=h
   exact⟨⟨HJ.out _ _ _ h1.1 (hc.mono HWM.out),hc.boxed h1.2.1,h1.2.2.1.calm hc (by have:=HWM.out;have:=HS0.out;omega),Nat.le_trans h1.2.2.2 hc.size⟩,Bx,hc.block _ _ h2 (Or.inr rfl),h3⟩)
  ?assign ?body ?done ?stop
 case assign =>
  rintro l2 pre k V hI hsz _
  generalize entAt ss (k:Int)=x
  obtain⟨u,pa,nm,tg⟩:=x
  have HI2:=ι hI
  clear hI
  gi_wp2
  have hb:=a0a (Below.refl V.heap.size V) (.cells #[.bool u,.int .i64 pa,.string nm,.int .i64 tg] 170)
  exact⟨⟨⟨HJ.out _ _ _ HI2.out.1 (rng.Calm.of_below hb),HI2.out.2.1.alloc _,HI2.out.2.2.1.later hb,Nat.le_trans HI2.out.2.2.2 hb.size⟩,V.heap.size,a2t V ⟨u,pa,nm,tg⟩,rfl⟩,Turn.of_below hb⟩
 case body =>
  rintro l2 pre k a' V ⟨hI,Bx,hX,rfl⟩ hsz hsp
  have huk:entB ss k=true:=by
   have:=hsp.subset (List.mem_append_right _ (List.mem_singleton.2 rfl))
   exact(those_mem.1 this).2
  have hk24:k<24:=by
   have:=hsp.subset (List.mem_append_right _ (List.mem_singleton.2 rfl))
   exact(those_mem.1 this).1
  have hpk:pp k=true→(pre.filter pp)++[k] <+: those pp 24:=fun hk=>by
   have h:=hsp.filter pp
   rw[HPD.out,List.filter_append] at h
   simpa [hk] using h
  have HPK:=ι hpk
  have HFY:Hid (pp k=true→(pre++[k]).filter pp=pre.filter pp++[k]):=ι fun hk=>by rw[List.filter_append];simp[hk]
  have HFN:Hid (pp k=false→(pre++[k]).filter pp=pre.filter pp):=ι fun hk=>by rw[List.filter_append];simp[hk]
  have HYk:=ι fun V' hj hs hp=>HY.out (pre.filter pp) k V' hj hs hp
  have HI2:=ι hI
  have HIL:=ι fun V' (hb:Below V.heap.size V V')=>(show J (pre.filter pp) V'∧Go.Boxed V' W.heap.size 131 (.func (.yield l) #[] #[])∧Keep w0 lo V1 V'∧W.heap.size≤V'.heap.size from⟨HJ.out _ _ _ hI.1 (rng.Calm.of_below hb),(rng.Calm.of_below (B:=0) hb).boxed hI.2.1,hI.2.2.1.later hb,Nat.le_trans hI.2.2.2 hb.size⟩)
  have HBAD:=ι (HBA.out k huk V hI.2.2.1)
  have cb:=(HBB.out V hI.2.2.1).cell
  have cy:=hI.2.1.cell
  have hbx:Bx<V.heap.size:=(Array.getElem?_eq_some_iff.1 hX).1
  clear hI hsp huk hpk
  generalize entAt ss (k:Int)=x at *
  obtain⟨u,pa,nm,tg⟩:=x
  have x0:V.cell? ⟨Bx,0,none⟩=some (.bool u):=hX.cell0
  have x1:V.cell? ⟨Bx,1,none⟩=some (.int .i64 pa):=hX.cell1
  have x2:V.cell? ⟨Bx,2,none⟩=some (.string nm):=hX.cell2
  have x3:V.cell? ⟨Bx,3,none⟩=some (.int .i64 tg):=hX.cell3
  clear hX
  cases hb:pp k with
  | false =>
   rw[hb] at HBAD
   have HN:=ι (HFN.out hb)
   clear hb HYk
   gi_wp2_with (refine⟨trivial,?_⟩;gi_at_call 158;refine(a2h HBAD.out).mono ?_;rintro e w3 ⟨rfl,hb3⟩;have HB3:=ι hb3;clear hb3)
   refine⟨fun _ h=>(by cases h),?_⟩
   gi_wp2
   have h:=HIL.out _ HB3.out
   exact⟨⟨by rw[HN.out];exact h.1,h.2⟩,Turn.of_below HB3.out⟩
  | true =>
   rw[hb] at HBAD
   have HYY:=ι (HFY.out hb)
   have HYw:=ι fun w3 (hb3:Below V.heap.size V w3)=>a2d 8 (HYk.out w3 (HIL.out w3 hb3).1 (HIL.out w3 hb3).2.2.2 (HPK.out hb))
   clear hb
   gi_wp2_with (refine⟨trivial,?_⟩;gi_at_call 158;refine(a2h HBAD.out).mono ?_;rintro e w3 ⟨rfl,hb3⟩;have HB3:=ι hb3;obtain⟨fn,tmps,assign,body,hy,hR⟩:=HYw.out w3 hb3;have ey:=(HIL.out w3 hb3).2.1.cell;clear hb3)
   refine RoundIn.mono (F:=Fence.wide.inRound l2) hR ?_
   rintro e W4 (⟨rfl,hJ4,hT4⟩|⟨rfl,hJx4,hT4⟩)
   ·have HJ4:=ι hJ4
    have HT4:=ι hT4
    clear hy hR hJ4 hT4
    gi_wp2
    have h:=HIL.out _ HB3.out
    have h5:=HSZ.out
    exact⟨⟨by rw[HYY.out];exact HJ4.out,HT4.out.keep _ _ h.2.1 (fun hz=>by
      rcases HZW.out _ _ hz with hh|hh
      ·omega
      ·exact a0s (by decide) hh),h.2.2.1.turn HT4.out (fun b o hz=>H1.out b o hz) (fun b o hz=>H2.out b o hz),Nat.le_trans h.2.2.2 HT4.out.size⟩,(Turn.of_below HB3.out).trans HT4.out⟩
   ·have HJX4:=ι hJx4
    have HT4:=ι hT4
    clear hy hR hJx4 hT4
    gi_wp2
    exact⟨⟨rfl,by rw[HYY.out];exact HJX4.out⟩,(Turn.of_below HB3.out).trans (HT4.out.mono fun j o hz=>hz.imp (fun h=>by have:=HSZ.out;omega) id)⟩
 case done =>
  rintro D ys V hD rfl hI hK
  have HI2:=ι hI
  clear hI
  gi_wp2
  refine⟨by simp,.inl ⟨_,_,rfl,run_takeDeferred hK,?_⟩⟩
  refine⟨_,results_none rfl _ _ _,⟨_,rfl⟩,.inl ⟨_,rfl,?_⟩⟩
  have h:=HI2.out.1
  rw[HPD.out] at h
  exact HJ.out _ _ _ h (rng.Calm.putObj _ (by have:=HSZ.out;omega) hK rfl)
 case stop =>
  rintro D c pre V hD hp ⟨rfl,hx⟩ hK
  have HX:=ι hx
  clear hx
  gi_wp2
  refine⟨by simp,.inl ⟨_,_,rfl,run_takeDeferred hK,?_⟩⟩
  refine⟨_,results_none rfl _ _ _,⟨_,rfl⟩,.inr ⟨_,?_,HJX.out _ _ _ HX.out (rng.Calm.putObj _ (by have:=HSZ.out;omega) hK rfl)⟩⟩
  rw[← HPD.out]
  exact hp.filter _
set_option maxRecDepth 100000 in
set_option maxHeartbeats 4000000 in
theorem d2n(w0:World)(p:Option Addr)(ss:List (List Int))(hd:Dk w0 (.pointer p) ss)(lo:Nat)(V1:World)(bc br:Nat)(q:Option Addr)(n c:Nat)(rs:List Int)(hbc:Go.Boxed V1 bc 45 (.pointer p))(hbr:Go.Boxed V1 br 31 (.slice q n c))(hr:∀V,Keep w0 lo V1 V→Rd V 1 (.slice q n c) n (i64s rs))(hn:n≤1000)(hrs:∀z:Int,0≤z→z<16→rs.contains z=reachB ss z)(bd bb:Nat)(hbd:Go.Boxed V1 bd 45 (.pointer p))(hbb:Go.Boxed V1 bb 225 (.func (.func 159) #[] #[.pointer (some ⟨br,0,none⟩),.pointer (some ⟨bc,0,none⟩)]))(hlo:lo≤bd∧lo≤bb∧lo≤bc∧lo≤br)(hlw:w0.heap.size≤lo)(m:Nat→Obj→Prop)(w:World)(hk:Keep w0 lo V1 w)(h1:∀b o,m b o→w0.heap.size≤b)(h2:∀b o,m b o→b<lo∨softP o∨V1.heap.size≤b) :
  Seq Tryz.prog 197 #[.pointer (some ⟨bd,0,none⟩),.pointer (some ⟨bb,0,none⟩)] (fun k:Nat => #[.int .i64 (k:Int)]) softP m (fun ys=>ys=those (lostB ss) 24) (fun pre=>pre <+: those (lostB ss) 24) w:=by
 intro l J Jx W hW hZW hJ hJx hY h0
 have HJ:=ι hJ
 have HJX:=ι hJx
 have HY:=ι hY
 have H1:=ι h1
 have H2:=ι h2
 have HZW:=ι hZW
 have HD:=ι hd
 have HLW:=ι hlw
 have HBD:=ι fun V (h:Keep w0 lo V1 V)=>h.boxed hbd hlo.1 (by decide)
 have HBB:=ι fun V (h:Keep w0 lo V1 V)=>h.boxed hbb hlo.2.1 (by decide)
 have HBA:=ι fun(k:Nat) (hu:entB ss k=true) V (h:Keep w0 lo V1 V)=>c3n V p ss k bc br q n c rs (hd.later h.below) hu (h.boxed hbc hlo.2.2.1 (by decide)) (h.boxed hbr hlo.2.2.2 (by decide)) (hr V h) hn hrs
 clear hbc hbr hr hrs
 have hK0:Keep w0 lo V1 W:=hk.calm (B:=w0.heap.size) ⟨hW.os,hW.tape,hW.output,hW.size,fun k o hi ho=>(hW.block k (Array.getElem?_eq_some_iff.1 hi).1).trans hi⟩ (Nat.le_refl _)
 have hs0:=hK0.below.size
 have HV1:=ι hK0.size
 have HS0:=ι hs0
 have hb1:=a0a (a0a (Below.refl W.heap.size W) (.cells #[.func (.yield l) #[] #[]] 131)) (.cells #[.pointer p] 45)
 have hy1:=(Go.Boxed.new W 131 (.func (.yield l) #[] #[])).alloc (.cells #[.pointer p] 45)
 have hd1:=Go.Boxed.new (W.alloc (.cells #[.func (.yield l) #[] #[]] 131)) 45 (.pointer p)
 rw[World.size_alloc] at hd1
 have hsz:((W.alloc (.cells #[.func (.yield l) #[] #[]] 131)).alloc (.cells #[.pointer p] 45)).heap.size=W.heap.size+2:=by simp[World.size_alloc]
 have cd:(W.alloc (.cells #[.func (.yield l) #[] #[]] 131)).cell? ⟨bd,0,none⟩=some (.pointer p):=((HBD.out W hK0).alloc _).cell
 obtain⟨W2,hW2⟩:∃W2,(W.alloc (.cells #[.func (.yield l) #[] #[]] 131)).alloc (.cells #[.pointer p] 45)=W2:=⟨_,rfl⟩
 rw[hW2] at hb1 hy1 hd1 hsz
 have HK2:Hid (Keep w0 lo V1 W2):=ι (hK0.later hb1)
 have HY2:=ι hy1
 have HD2:=ι hd1
 have HSZ:=ι hsz
 have HJ2:Hid (J [] W2):=ι (hJ _ _ _ h0 (rng.Calm.of_below hb1))
 have HEU:=ι fun k h=>b7q (ss:=ss) k h
 have HPD:Hid ((those (entB ss) 24).filter (lostB ss)=those (lostB ss) 24):=ι (a6t (fun k h=>b7q k h) 24)
 generalize (lostB ss)=pp at *
 clear hJ hJx hY h1 h2 hbd hbb hlo hlw hk hW hZW hK0 hb1 hy1 hd1 hsz h0 hd hs0
 refine(callsIn_wide (n:=10)).1 (callsIn_of_wp_marks Tryz.func197 rfl trivial ?_ rfl)
 simp only[Tryz.ntmps197,List.size_toArray,List.length_cons,List.length_nil,Nat.reduceAdd,Nat.reduceSub,Array.replicate_succ,Array.replicate_zero,List.push_toArray,List.append_toArray,List.nil_append,List.cons_append]
 gi_wp2_with (refine⟨trivial,?_⟩;gi_at_call 105;refine(callsIn_wide.2 (a4v _ _)).mono ?_;rintro e w2 ⟨rfl,rfl⟩)
 try rw[hW2]
 clear hW2 cd
 have HWM:Hid (W.heap.size≤W2.heap.size):=ι (by have:=HSZ.out;omega)
 refine a1w (gf:=150) (lb := #[.pointer (some ⟨W.heap.size+1,0,none⟩)]) rfl (enters_of Tryz.func150 (by kernel_rfl) rfl)
  (a4m softP w0 (.pointer p) ss HD.out (W.heap.size+1) (fun b o=>b=W2.heap.size+1∨m b o) W2 HK2.out.below HD2.out (fun b o hb=>by
   have h1:=HSZ.out
   have h2:=HS0.out
   rcases hb with hb|hb
   ·omega
   ·exact H1.out b o hb) (fun v hb=>by
   have h1:=HSZ.out
   rcases hb with hb|hb
   ·omega
   ·rcases HZW.out _ _ hb with h|h
    ·omega
    ·exact a0s (by decide) h)) (fun b o h=>(HZW.out b o h).imp (fun h=>by have:=HSZ.out;omega) id) a0j (fun _=>rfl)
  (fun pre V=>J (pre.filter pp) V∧Go.Boxed V W.heap.size 131 (.func (.yield l) #[] #[])∧Keep w0 lo V1 V∧W.heap.size≤V.heap.size)
  (fun c pre V=>c = .ret∧Jx (pre.filter pp) V)
  (fun s A B h hc=>⟨HJ.out _ _ _ h.1 (hc.mono HWM.out),hc.boxed h.2.1,h.2.2.1.calm hc (by have:=HWM.out;have:=HS0.out;omega),Nat.le_trans h.2.2.2 hc.size⟩)
  (fun c s A B h hc=>⟨h.1,HJX.out _ _ _ h.2 (hc.mono HWM.out)⟩)
  ⟨HJ2.out,HY2.out,HK2.out,HWM.out⟩
  (fun pre k a' V=>(J (pre.filter pp) V∧Go.Boxed V W.heap.size 131 (.func (.yield l) #[] #[])∧Keep w0 lo V1 V∧W.heap.size≤V.heap.size)∧∃Bx,AtE V Bx (entAt ss (k:Int))∧a'={ tmps := #[.func (.yield l) #[] #[],.pointer (some ⟨bd,0,none⟩),.pointer (some ⟨bb,0,none⟩),.pointer (some ⟨W.heap.size,0,none⟩),.int .i64 (k:Int),.pointer (some ⟨Bx,0,none⟩),.pointer p,.func (.func 150) #[] #[.pointer (some ⟨W.heap.size+1,0,none⟩)],.int .i64 (k:Int),aggE (entAt ss (k:Int)),undef,undef,undef,undef,undef,undef,undef,undef,undef],defers:=[] })
  (fun s k a' A B h hc=>by
   obtain⟨h1,Bx,h2,h3⟩:=h
   exact⟨⟨HJ.out _ _ _ h1.1 (hc.mono HWM.out),hc.boxed h1.2.1,h1.2.2.1.calm hc (by have:=HWM.out;have:=HS0.out;omega),Nat.le_trans h1.2.2.2 hc.size⟩,Bx,hc.block _ _ h2 (Or.inr rfl),h3⟩)
  ?assign ?body ?done ?stop
 case assign =>
  rintro l2 pre k V hI hsz _
  generalize entAt ss (k:Int)=x
  obtain⟨u,pa,nm,tg⟩:=x
  have HI2:=ι hI
  clear hI
  gi_wp2
  have hb:=a0a (Below.refl V.heap.size V) (.cells #[.bool u,.int .i64 pa,.string nm,.int .i64 tg] 170)
  exact⟨⟨⟨HJ.out _ _ _ HI2.out.1 (rng.Calm.of_below hb),HI2.out.2.1.alloc _,HI2.out.2.2.1.later hb,Nat.le_trans HI2.out.2.2.2 hb.size⟩,V.heap.size,a2t V ⟨u,pa,nm,tg⟩,rfl⟩,Turn.of_below hb⟩
 case body =>
  rintro l2 pre k a' V ⟨hI,Bx,hX,rfl⟩ hsz hsp
  have huk:entB ss k=true:=by
   have:=hsp.subset (List.mem_append_right _ (List.mem_singleton.2 rfl))
   exact(those_mem.1 this).2
  have hk24:k<24:=by
   have:=hsp.subset (List.mem_append_right _ (List.mem_singleton.2 rfl))
   exact(those_mem.1 this).1
  have hpk:pp k=true→(pre.filter pp)++[k] <+: those pp 24:=fun hk=>by
   have h:=hsp.filter pp
   rw[HPD.out,List.filter_append] at h
   simpa [hk] using h
  have HPK:=ι hpk
  have HFY:Hid (pp k=true→(pre++[k]).filter pp=pre.filter pp++[k]):=ι fun hk=>by rw[List.filter_append];simp[hk]
  have HFN:Hid (pp k=false→(pre++[k]).filter pp=pre.filter pp):=ι fun hk=>by rw[List.filter_append];simp[hk]
  have HYk:=ι fun V' hj hs hp=>HY.out (pre.filter pp) k V' hj hs hp
  have HI2:=ι hI
  have HIL:=ι fun V' (hb:Below V.heap.size V V')=>(show J (pre.filter pp) V'∧Go.Boxed V' W.heap.size 131 (.func (.yield l) #[] #[])∧Keep w0 lo V1 V'∧W.heap.size≤V'.heap.size from⟨HJ.out _ _ _ hI.1 (rng.Calm.of_below hb),(rng.Calm.of_below (B:=0) hb).boxed hI.2.1,hI.2.2.1.later hb,Nat.le_trans hI.2.2.2 hb.size⟩)
  have HBAD:=ι (HBA.out k huk V hI.2.2.1)
  have cb:=(HBB.out V hI.2.2.1).cell
  have cy:=hI.2.1.cell
  have hbx:Bx<V.heap.size:=(Array.getElem?_eq_some_iff.1 hX).1
  clear hI hsp huk hpk
  generalize entAt ss (k:Int)=x at *
  obtain⟨u,pa,nm,tg⟩:=x
  have x0:V.cell? ⟨Bx,0,none⟩=some (.bool u):=hX.cell0
  have x1:V.cell? ⟨Bx,1,none⟩=some (.int .i64 pa):=hX.cell1
  have x2:V.cell? ⟨Bx,2,none⟩=some (.string nm):=hX.cell2
  have x3:V.cell? ⟨Bx,3,none⟩=some (.int .i64 tg):=hX.cell3
  clear hX
  cases hb:pp k with
  | false =>
   rw[hb] at HBAD
   have HN:=ι (HFN.out hb)
   clear hb HYk
   gi_wp2_with (refine⟨trivial,?_⟩;gi_at_call 159;refine(a2h HBAD.out).mono ?_;rintro e w3 ⟨rfl,hb3⟩;have HB3:=ι hb3;clear hb3)
   refine⟨fun _ h=>(by cases h),?_⟩
   gi_wp2
   have h:=HIL.out _ HB3.out
   exact⟨⟨by rw[HN.out];exact h.1,h.2⟩,Turn.of_below HB3.out⟩
  | true =>
   rw[hb] at HBAD
   have HYY:=ι (HFY.out hb)
   have HYw:=ι fun w3 (hb3:Below V.heap.size V w3)=>a2d 8 (HYk.out w3 (HIL.out w3 hb3).1 (HIL.out w3 hb3).2.2.2 (HPK.out hb))
   clear hb
   gi_wp2_with (refine⟨trivial,?_⟩;gi_at_call 159;refine(a2h HBAD.out).mono ?_;rintro e w3 ⟨rfl,hb3⟩;have HB3:=ι hb3;obtain⟨fn,tmps,assign,body,hy,hR⟩:=HYw.out w3 hb3;have ey:=(HIL.out w3 hb3).2.1.cell;clear hb3)
   refine RoundIn.mono (F:=Fence.wide.inRound l2) hR ?_
   rintro e W4 (⟨rfl,hJ4,hT4⟩|⟨rfl,hJx4,hT4⟩)
   ·have HJ4:=ι hJ4
    have HT4:=ι hT4
    clear hy hR hJ4 hT4
    gi_wp2
    have h:=HIL.out _ HB3.out
    have h5:=HSZ.out
    exact⟨⟨by rw[HYY.out];exact HJ4.out,HT4.out.keep _ _ h.2.1 (fun hz=>by
      rcases HZW.out _ _ hz with hh|hh
      ·omega
      ·exact a0s (by decide) hh),h.2.2.1.turn HT4.out (fun b o hz=>H1.out b o hz) (fun b o hz=>H2.out b o hz),Nat.le_trans h.2.2.2 HT4.out.size⟩,(Turn.of_below HB3.out).trans HT4.out⟩
   ·have HJX4:=ι hJx4
    have HT4:=ι hT4
    clear hy hR hJx4 hT4
    gi_wp2
    exact⟨⟨rfl,by rw[HYY.out];exact HJX4.out⟩,(Turn.of_below HB3.out).trans (HT4.out.mono fun j o hz=>hz.imp (fun h=>by have:=HSZ.out;omega) id)⟩
 case done =>
  rintro D ys V hD rfl hI hK
  have HI2:=ι hI
  clear hI
  gi_wp2
  refine⟨by simp,.inl ⟨_,_,rfl,run_takeDeferred hK,?_⟩⟩
  refine⟨_,results_none rfl _ _ _,⟨_,rfl⟩,.inl ⟨_,rfl,?_⟩⟩
  have h:=HI2.out.1
  rw[HPD.out] at h
  exact HJ.out _ _ _ h (rng.Calm.putObj _ (by have:=HSZ.out;omega) hK rfl)
 case stop =>
  rintro D c pre V hD hp ⟨rfl,hx⟩ hK
  have HX:=ι hx
  clear hx
  gi_wp2
  refine⟨by simp,.inl ⟨_,_,rfl,run_takeDeferred hK,?_⟩⟩
  refine⟨_,results_none rfl _ _ _,⟨_,rfl⟩,.inr ⟨_,?_,HJX.out _ _ _ HX.out (rng.Calm.putObj _ (by have:=HSZ.out;omega) hK rfl)⟩⟩
  rw[← HPD.out]
  exact hp.filter _
end lk
namespace lk
set_option maxRecDepth 100000
open Go.ChangeShapes Go.WideShapes Go.ChangeAt Go.RowKit
open rows
open sec
open ly
open rng
attribute [local go_sem] Oper.semAt_some
theorem b9n(p:Nat→Bool)(m:Nat):(those p m).Nodup:=List.nodup_range.filter _
theorem b0o{p:Nat→Bool}{k m:Nat}{pre:List Nat}(h:pre++[k] <+: those p m):pre=those p k:=by
 have hk:=those_mem.1 (h.subset (List.mem_append_right _ (List.mem_singleton.2 rfl)))
 have h2:those p k++[k] <+: those p m:=by rw[← a3y hk.2];exact a4s p (by omega)
 rcases Nat.lt_trichotomy pre.length (those p k).length with hl|hl|hl
 ·have h3:pre++[k] <+: those p k:=List.prefix_of_prefix_length_le h ((List.prefix_append _ _).trans h2) (by simp;omega)
  have:=those_mem.1 (h3.subset (List.mem_append_right _ (List.mem_singleton.2 rfl)))
  omega
 ·have h3:pre <+: those p k:=List.prefix_of_prefix_length_le ((List.prefix_append _ _).trans h) ((List.prefix_append _ _).trans h2) (by omega)
  exact h3.eq_of_length hl
 ·have h3:those p k++[k] <+: pre:=List.prefix_of_prefix_length_le h2 ((List.prefix_append _ _).trans h) (by simp;omega)
  have hm:=h3.subset (List.mem_append_right _ (List.mem_singleton.2 rfl))
  have hn:(pre++[k]).Nodup:=h.sublist.nodup (b9n p m)
  rw[List.nodup_append] at hn
  exact absurd rfl (hn.2.2 k hm k (List.mem_singleton.2 rfl))
theorem c9d{ss:List (List Int)}(r:Nat→Nat→Bool){k:Nat}(hu:entB ss k=true):lowB ss r k=(those (entB ss) k).any (r k):=by
 rw[lowB,show (entAt ss (k:Int)).used=true from hu,Bool.true_and,those,List.any_filter];rfl
theorem c3a{ss:List (List Int)}(r:Nat→Nat→Bool)(k:Nat)(h:lowB ss r k=true):entB ss k=true:=by
 rw[lowB,Bool.and_eq_true] at h;exact h.1
def entC(x:Ent):List Value:=[.bool x.used,.int .i64 x.parent,.string x.name,.int .i64 x.target]
def entsC(l:List Ent):List Value:=(l.map entC).flatten
theorem c4k(l:List Ent)(x:Ent):entsC (l++[x])=entsC l++entC x:=by simp[entsC]
theorem a1d:Elem 270 170 4 40 (.agg #[.bool false,.int .i64 0,.string ByteArray.empty,.int .i64 0]):=⟨Tryz.underlying270,by kernel_rfl,by decide,by decide,by decide⟩
theorem d0a:(Tryz.prog.info? 170).map (·.size)=some 4:=by kernel_rfl
theorem a7t{ops:Array Oper}{rest:List Oper}{o:Oper}{a:Go.Act}{w:World}{Q:Exit→Go.Act→World→Prop}(hgd:o.guard=none)(x:Operand)(ho:o.op = .load 170 x)
  (b off:Nat) (hx:a.eval x = .pointer (some ⟨b,off,none⟩)) (y:Ent) (hg:w.rangeAt b off (entC y))
  (h:wpList Tryz.prog ops Q rest (a.put o.dst (.agg #[.bool y.used,.int .i64 y.parent,.string y.name,.int .i64 y.target])) w):wpList Tryz.prog ops Q (o::rest) a w :=
 wpList_load_mid hgd 170 x ho b off hx (entC y) _ hg Tryz.underlying170 rfl (by rw[d0a];rfl) h
set_option maxHeartbeats 1600000 in
theorem b6t(x y:Ent)(w:World):Calls Tryz.prog 161 #[.agg #[.bool x.used,.int .i64 x.parent,.string x.name,.int .i64 x.target],.agg #[.bool y.used,.int .i64 y.parent,.string y.name,.int .i64 y.target]] w (Rt w (.bool ((x.parent == y.parent) && (x.name.toList == y.name.toList)))):=by
 obtain⟨u,pa,nm,tg⟩:=x
 obtain⟨u2,pa2,nm2,tg2⟩:=y
 simp only
 have B2:=ι (a0a (a0a (Below.refl w.heap.size w) (.cells #[.bool u,.int .i64 pa,.string nm,.int .i64 tg] 170)) (.cells #[.bool u2,.int .i64 pa2,.string nm2,.int .i64 tg2] 170))
 obtain⟨b1,hb1⟩:∃b,(pa == pa2)=b:=⟨_,rfl⟩
 rw[hb1]
 cases b1 <;>
  (
   go_enter Tryz.func161,Tryz.ntmps161
   go_wp2_with fail
   go_ret
   exact⟨rfl,B2.out⟩)
set_option maxHeartbeats 1600000 in
theorem b8j(x y:Ent)(w:World):Calls Tryz.prog 162 #[.agg #[.bool x.used,.int .i64 x.parent,.string x.name,.int .i64 x.target],.agg #[.bool y.used,.int .i64 y.parent,.string y.name,.int .i64 y.target]] w (Rt w (.bool (x.target == y.target))):=by
 obtain⟨u,pa,nm,tg⟩:=x
 obtain⟨u2,pa2,nm2,tg2⟩:=y
 simp only
 have B2:=ι (a0a (a0a (Below.refl w.heap.size w) (.cells #[.bool u,.int .i64 pa,.string nm,.int .i64 tg] 170)) (.cells #[.bool u2,.int .i64 pa2,.string nm2,.int .i64 tg2] 170))
 go_enter Tryz.func162,Tryz.ntmps162
 go_wp2_with fail
 go_ret
 exact⟨rfl,B2.out⟩
set_option maxHeartbeats 1600000 in
theorem crep11D(w:World)(ba Bx:Nat)(x y:Ent)(hba:Go.Boxed w ba 227 (.func (.func 161) #[] #[]))(hx:AtE w Bx x) :
  Calls Tryz.prog 200 #[.agg #[.bool y.used,.int .i64 y.parent,.string y.name,.int .i64 y.target],.pointer (some ⟨ba,0,none⟩),.pointer (some ⟨Bx,0,none⟩)] w (Rt w (.bool ((x.parent == y.parent) && (x.name.toList == y.name.toList)))):=by
 have HC:=ι fun w'=>b6t x y w'
 generalize ((x.parent == y.parent) && (x.name.toList == y.name.toList))=res at *
 obtain⟨u,pa,nm,tg⟩:=x
 obtain⟨u2,pa2,nm2,tg2⟩:=y
 simp only at HC ⊢
 have B1:=ι (a0a (Below.refl w.heap.size w) (.cells #[.bool u2,.int .i64 pa2,.string nm2,.int .i64 tg2] 170))
 have cb:=(hba.alloc (.cells #[.bool u2,.int .i64 pa2,.string nm2,.int .i64 tg2] 170)).cell
 have hx1:=hx.later (a0a (Below.refl w.heap.size w) (.cells #[.bool u2,.int .i64 pa2,.string nm2,.int .i64 tg2] 170))
 have x0:(w.alloc (.cells #[.bool u2,.int .i64 pa2,.string nm2,.int .i64 tg2] 170)).cell? ⟨Bx,0,none⟩=some (.bool u):=hx1.cell0
 have x1:(w.alloc (.cells #[.bool u2,.int .i64 pa2,.string nm2,.int .i64 tg2] 170)).cell? ⟨Bx,1,none⟩=some (.int .i64 pa):=hx1.cell1
 have x2:(w.alloc (.cells #[.bool u2,.int .i64 pa2,.string nm2,.int .i64 tg2] 170)).cell? ⟨Bx,2,none⟩=some (.string nm):=hx1.cell2
 have x3:(w.alloc (.cells #[.bool u2,.int .i64 pa2,.string nm2,.int .i64 tg2] 170)).cell? ⟨Bx,3,none⟩=some (.int .i64 tg):=hx1.cell3
 clear hx hx1 hba
 go_enter Tryz.func200,Tryz.ntmps200
 go_wp2_with (go_at_call 161;refine(HC.out _).mono ?_;rintro e w2 ⟨rfl,hb⟩;have B2:=ι (a0b B1.out hb);clear hb)
 go_ret
 exact⟨rfl,B2.out⟩
set_option maxRecDepth 100000 in
set_option maxHeartbeats 1600000 in
theorem cidxD(w:World)(ba Bx:Nat)(x:Ent)(L:List Ent)(p:Option Addr)(m c:Nat)(hba:Go.Boxed w ba 227 (.func (.func 161) #[] #[]))(hx:AtE w Bx x)(h:Rd w 4 (.slice p m c) m (entsC L))(hm:m≤1000) :
  Calls Tryz.prog 222 #[.slice p m c,.func (.func 200) #[] #[.pointer (some ⟨ba,0,none⟩),.pointer (some ⟨Bx,0,none⟩)]] w fun e w'=>(∃r:Int,e = .returned (.int .i64 r)∧decide (0≤r)=L.any (fun y=>(x.parent == y.parent) && (x.name.toList == y.name.toList)))∧Below w.heap.size w w':=by
 have HR:=ι h
 have hml:L.length=m:=dsk.Rd.count entC h (fun x hx=>rfl) (by decide)
 have HML:=ι hml
 have HCL:=ι fun w' (hb:Below w.heap.size w w') y=>crep11D w' ba Bx x y ((rng.Calm.of_below (B:=0) hb).boxed hba) (hx.later hb)
 have hm1:(m:Int)≤1000:=by omega
 obtain⟨pr,hpr⟩:∃pr:Ent→Bool,(fun y:Ent=>(x.parent == y.parent) && (x.name.toList == y.name.toList))=pr:=⟨_,rfl⟩
 have HPR:Hid (∀y:Ent,((x.parent == y.parent) && (x.name.toList == y.name.toList))=pr y):=ι fun y=>by rw[← hpr]
 rw[hpr]
 clear h hml hba hx hpr
 go_enter Tryz.func222,Tryz.ntmps222
 go_wp2
 go_loopw [8] (fun iv wr=>∃(j:Nat),j≤m∧iv = .int .i64 (j:Int)∧Hid ((L.take j).any pr=false)∧Below w.heap.size w wr) (fun iv _=>m-(intOf iv).toNat)
 case atStart=>exact⟨0,by omega,rfl,ι rfl,Below.refl _ _⟩
 case round =>
  obtain⟨j,hj,rfl,HA,hbr⟩:=hrel
  by_cases ha:j<m
  ·have ha1:(j:Int)<m:=by omega
   have hjl:j<L.length:=by rw[HML.out];exact ha
   obtain⟨b1,o1,rfl,hc1,hmm1,hh1,hl1,HR1⟩:=dsk.Rd.chunk entC HR.out (fun x hx=>rfl) (by decide) ha
   have HRG:=ι (Rd.rangeLater (HR1 j hjl) hh1 hbr)
   have HAN:Hid ((L.take (j+1)).any pr=pr L[j]):=ι (by rw[List.take_succ_eq_append_getElem hjl,List.any_append,HA.out];simp)
   have HAY:Hid (pr L[j]=true→L.any pr=true):=ι fun h=>List.any_eq_true.2 ⟨_,List.getElem_mem hjl,h⟩
   have HCM:=ι (HCL.out wr hbr L[j])
   rw[HPR.out] at HCM
   generalize L[j]=y at *
   obtain⟨yu,yp,yn,yt⟩:=y
   simp only at HCM
   clear HR1 hl1
   cases hq:pr ⟨yu,yp,yn,yt⟩
   all_goals (rw[hq] at HCM HAN HAY;clear hq)
   ·go_wp2_with (first|(refine a7t rfl (.tmp 14) rfl b1 (o1+j * 4) rfl ⟨yu,yp,yn,yt⟩ HRG.out ?_)|(go_at_call 200;refine HCM.out.mono ?_;rintro e w2 ⟨rfl,hb2⟩))
    go_roundw
    case rel=>exact⟨j+1,by omega,by go_num,HAN,a0b hbr hb2⟩
    case measure=>simp[intOf];omega
   ·go_wp2_with (first|(refine a7t rfl (.tmp 14) rfl b1 (o1+j * 4) rfl ⟨yu,yp,yn,yt⟩ HRG.out ?_)|(go_at_call 200;refine HCM.out.mono ?_;rintro e w2 ⟨rfl,hb2⟩))
    go_ret
    exact⟨⟨(j:Int),rfl,by rw[HAY.out trivial];simp⟩,a0b hbr hb2⟩
  ·obtain rfl:m=j:=by omega
   have HAE:Hid (L.any pr=false):=ι (by have h:=HA.out;rwa [List.take_of_length_le (by rw[HML.out];omega)] at h)
   go_wp2_with fail
   go_ret
   exact⟨⟨-1,rfl,by rw[HAE.out];rfl⟩,hbr⟩
theorem ccontD(w:World)(ba Bx:Nat)(x:Ent)(L:List Ent)(p:Option Addr)(m c:Nat)(hba:Go.Boxed w ba 227 (.func (.func 161) #[] #[]))(hx:AtE w Bx x)(h:Rd w 4 (.slice p m c) m (entsC L))(hm:m≤1000) :
  Calls Tryz.prog 199 #[.slice p m c,.func (.func 200) #[] #[.pointer (some ⟨ba,0,none⟩),.pointer (some ⟨Bx,0,none⟩)]] w (Rt w (.bool (L.any (fun y=>(x.parent == y.parent) && (x.name.toList == y.name.toList))))):=by
 have HI:=ι (cidxD w ba Bx x L p m c hba hx h hm)
 generalize L.any (fun y=>(x.parent == y.parent) && (x.name.toList == y.name.toList))=res at *
 clear hba hx h
 go_enter Tryz.func199,Tryz.ntmps199
 go_wp2_with (go_at_call 222;refine HI.out.mono ?_;rintro e w2 ⟨⟨r,rfl,hr⟩,hb2⟩;have HR:=ι hr;clear hr)
 all_goals go_ret
 exact⟨a0l HR.out,hb2⟩
set_option maxHeartbeats 1600000 in
theorem crep11L(w:World)(ba Bx:Nat)(x y:Ent)(hba:Go.Boxed w ba 227 (.func (.func 162) #[] #[]))(hx:AtE w Bx x) :
  Calls Tryz.prog 200 #[.agg #[.bool y.used,.int .i64 y.parent,.string y.name,.int .i64 y.target],.pointer (some ⟨ba,0,none⟩),.pointer (some ⟨Bx,0,none⟩)] w (Rt w (.bool (x.target == y.target))):=by
 have HC:=ι fun w'=>b8j x y w'
 generalize (x.target == y.target)=res at *
 obtain⟨u,pa,nm,tg⟩:=x
 obtain⟨u2,pa2,nm2,tg2⟩:=y
 simp only at HC ⊢
 have B1:=ι (a0a (Below.refl w.heap.size w) (.cells #[.bool u2,.int .i64 pa2,.string nm2,.int .i64 tg2] 170))
 have cb:=(hba.alloc (.cells #[.bool u2,.int .i64 pa2,.string nm2,.int .i64 tg2] 170)).cell
 have hx1:=hx.later (a0a (Below.refl w.heap.size w) (.cells #[.bool u2,.int .i64 pa2,.string nm2,.int .i64 tg2] 170))
 have x0:(w.alloc (.cells #[.bool u2,.int .i64 pa2,.string nm2,.int .i64 tg2] 170)).cell? ⟨Bx,0,none⟩=some (.bool u):=hx1.cell0
 have x1:(w.alloc (.cells #[.bool u2,.int .i64 pa2,.string nm2,.int .i64 tg2] 170)).cell? ⟨Bx,1,none⟩=some (.int .i64 pa):=hx1.cell1
 have x2:(w.alloc (.cells #[.bool u2,.int .i64 pa2,.string nm2,.int .i64 tg2] 170)).cell? ⟨Bx,2,none⟩=some (.string nm):=hx1.cell2
 have x3:(w.alloc (.cells #[.bool u2,.int .i64 pa2,.string nm2,.int .i64 tg2] 170)).cell? ⟨Bx,3,none⟩=some (.int .i64 tg):=hx1.cell3
 clear hx hx1 hba
 go_enter Tryz.func200,Tryz.ntmps200
 go_wp2_with (go_at_call 162;refine(HC.out _).mono ?_;rintro e w2 ⟨rfl,hb⟩;have B2:=ι (a0b B1.out hb);clear hb)
 go_ret
 exact⟨rfl,B2.out⟩
set_option maxRecDepth 100000 in
set_option maxHeartbeats 1600000 in
theorem cidxL(w:World)(ba Bx:Nat)(x:Ent)(L:List Ent)(p:Option Addr)(m c:Nat)(hba:Go.Boxed w ba 227 (.func (.func 162) #[] #[]))(hx:AtE w Bx x)(h:Rd w 4 (.slice p m c) m (entsC L))(hm:m≤1000) :
  Calls Tryz.prog 222 #[.slice p m c,.func (.func 200) #[] #[.pointer (some ⟨ba,0,none⟩),.pointer (some ⟨Bx,0,none⟩)]] w fun e w'=>(∃r:Int,e = .returned (.int .i64 r)∧decide (0≤r)=L.any (fun y=>x.target == y.target))∧Below w.heap.size w w':=by
 have HR:=ι h
 have hml:L.length=m:=dsk.Rd.count entC h (fun x hx=>rfl) (by decide)
 have HML:=ι hml
 have HCL:=ι fun w' (hb:Below w.heap.size w w') y=>crep11L w' ba Bx x y ((rng.Calm.of_below (B:=0) hb).boxed hba) (hx.later hb)
 have hm1:(m:Int)≤1000:=by omega
 obtain⟨pr,hpr⟩:∃pr:Ent→Bool,(fun y:Ent=>x.target == y.target)=pr:=⟨_,rfl⟩
 have HPR:Hid (∀y:Ent,(x.target == y.target)=pr y):=ι fun y=>by rw[← hpr]
 rw[hpr]
 clear h hml hba hx hpr
 go_enter Tryz.func222,Tryz.ntmps222
 go_wp2
 go_loopw [8] (fun iv wr=>∃(j:Nat),j≤m∧iv = .int .i64 (j:Int)∧Hid ((L.take j).any pr=false)∧Below w.heap.size w wr) (fun iv _=>m-(intOf iv).toNat)
 case atStart=>exact⟨0,by omega,rfl,ι rfl,Below.refl _ _⟩
 case round =>
  obtain⟨j,hj,rfl,HA,hbr⟩:=hrel
  by_cases ha:j<m
  ·have ha1:(j:Int)<m:=by omega
   have hjl:j<L.length:=by rw[HML.out];exact ha
   obtain⟨b1,o1,rfl,hc1,hmm1,hh1,hl1,HR1⟩:=dsk.Rd.chunk entC HR.out (fun x hx=>rfl) (by decide) ha
   have HRG:=ι (Rd.rangeLater (HR1 j hjl) hh1 hbr)
   have HAN:Hid ((L.take (j+1)).any pr=pr L[j]):=ι (by rw[List.take_succ_eq_append_getElem hjl,List.any_append,HA.out];simp)
   have HAY:Hid (pr L[j]=true→L.any pr=true):=ι fun h=>List.any_eq_true.2 ⟨_,List.getElem_mem hjl,h⟩
   have HCM:=ι (HCL.out wr hbr L[j])
   rw[HPR.out] at HCM
   generalize L[j]=y at *
   obtain⟨yu,yp,yn,yt⟩:=y
   simp only at HCM
   clear HR1 hl1
   cases hq:pr ⟨yu,yp,yn,yt⟩
   all_goals (rw[hq] at HCM HAN HAY;clear hq)
   ·go_wp2_with (first|(refine a7t rfl (.tmp 14) rfl b1 (o1+j * 4) rfl ⟨yu,yp,yn,yt⟩ HRG.out ?_)|(go_at_call 200;refine HCM.out.mono ?_;rintro e w2 ⟨rfl,hb2⟩))
    go_roundw
    case rel=>exact⟨j+1,by omega,by go_num,HAN,a0b hbr hb2⟩
    case measure=>simp[intOf];omega
   ·go_wp2_with (first|(refine a7t rfl (.tmp 14) rfl b1 (o1+j * 4) rfl ⟨yu,yp,yn,yt⟩ HRG.out ?_)|(go_at_call 200;refine HCM.out.mono ?_;rintro e w2 ⟨rfl,hb2⟩))
    go_ret
    exact⟨⟨(j:Int),rfl,by rw[HAY.out trivial];simp⟩,a0b hbr hb2⟩
  ·obtain rfl:m=j:=by omega
   have HAE:Hid (L.any pr=false):=ι (by have h:=HA.out;rwa [List.take_of_length_le (by rw[HML.out];omega)] at h)
   go_wp2_with fail
   go_ret
   exact⟨⟨-1,rfl,by rw[HAE.out];rfl⟩,hbr⟩
theorem ccontL(w:World)(ba Bx:Nat)(x:Ent)(L:List Ent)(p:Option Addr)(m c:Nat)(hba:Go.Boxed w ba 227 (.func (.func 162) #[] #[]))(hx:AtE w Bx x)(h:Rd w 4 (.slice p m c) m (entsC L))(hm:m≤1000) :
  Calls Tryz.prog 199 #[.slice p m c,.func (.func 200) #[] #[.pointer (some ⟨ba,0,none⟩),.pointer (some ⟨Bx,0,none⟩)]] w (Rt w (.bool (L.any (fun y=>x.target == y.target)))):=by
 have HI:=ι (cidxL w ba Bx x L p m c hba hx h hm)
 generalize L.any (fun y=>x.target == y.target)=res at *
 clear hba hx h
 go_enter Tryz.func199,Tryz.ntmps199
 go_wp2_with (go_at_call 222;refine HI.out.mono ?_;rintro e w2 ⟨⟨r,rfl,hr⟩,hb2⟩;have HR:=ι hr;clear hr)
 all_goals go_ret
 exact⟨a0l HR.out,hb2⟩
end lk
namespace lk
set_option maxRecDepth 100000
open Go.ChangeShapes Go.WideShapes Go.ChangeAt Go.RowKit
open rows
open sec
open dsk (a0g a0p a3c)
open ly
open rng
attribute [local go_sem] Oper.semAt_some
def softR(o:Obj):Prop:=softP o∨∃cs fr,o = .cells cs 170 fr
theorem b0u(o:Obj)(h:softR o):o.isCells=true:=by
 rcases h with h|⟨cs,fr,rfl⟩
 ·exact a0j o h
 ·rfl
def entsAt(ss:List (List Int))(l:List Nat):List Ent:=l.map fun k:Nat=>entAt ss (k:Int)
theorem a3x{B0 B:Nat}{w w':World}{e:TypeId}{sz n:Nat}{v:Value}{cs:List Value}(h:rows.Own w B e sz v n cs)(k:rng.Calm B0 w w'):rows.Own w' B e sz v n cs:=by
 refine⟨h.1,?_⟩
 rcases h.2 with h2|⟨g,cap,cur,hv,h3,h4,h5⟩
 ·exact Or.inl h2
 ·exact Or.inr ⟨g,cap,cur,hv,h3,k.block g _ h4 (Or.inr rfl),h5⟩
theorem c8y{B:Nat}{w w':World}{e:TypeId}{sz n:Nat}{v:Value}{cs:List Value}{m:Nat→Obj→Prop}(h:rows.Own w B e sz v n cs)(k:Turn m w w')(hm:∀g cur,v.ownBlock=some g→¬m g (.cells cur e (0,0))):rows.Own w' B e sz v n cs:=by
 refine⟨h.1,?_⟩
 rcases h.2 with h2|⟨g,cap,cur,hv,h3,h4,h5⟩
 ·exact Or.inl h2
 ·exact Or.inr ⟨g,cap,cur,hv,h3,k.keep g _ h4 (hm g _ (by rw[hv];rfl)),h5⟩
structure LowAt (B:Nat) (ss:List (List Int)) (pre:List Nat) (q:Option Addr) (n c:Nat) (W:World):Prop where
 box:Go.Boxed W B 270 (.slice q n c)
 own:rows.Own W 0 170 4 (.slice q n c) n (entsC (entsAt ss pre))
 len:n=pre.length
 low:∀k,(Value.slice q n c).ownBlock=some k→B+2≤k
theorem LowAt.calm{B B0:Nat}{ss:List (List Int)}{pre:List Nat}{q:Option Addr}{n c:Nat}{a b:World}(h:LowAt B ss pre q n c a)(k:rng.Calm B0 a b):LowAt B ss pre q n c b:=⟨k.boxed h.box,a3x h.own k,h.len,h.low⟩
theorem LowAt.turn{B:Nat}{ss:List (List Int)}{pre:List Nat}{q:Option Addr}{n c:Nat}{a b:World}{m:Nat→Obj→Prop}(h:LowAt B ss pre q n c a)(k:Turn m a b)(hm:∀g o,m g o→g<B∨softP o):LowAt B ss pre q n c b :=
 ⟨k.keep _ _ h.box fun hz=>by
  rcases hm _ _ hz with hh|hh
  ·omega
  ·exact a0s (by decide) hh,c8y h.own k fun g cur hg hz=>by
  rcases hm _ _ hz with hh|hh
  ·have:=h.low g hg;omega
  ·exact a0s (by decide) hh,h.len,h.low⟩
theorem a8z{w:World}{B:Nat}{e:TypeId}{sz n:Nat}{v:Value}{cs:List Value}(h:rows.Own w B e sz v n cs){k:Nat}(hk:v.ownBlock=some k):∃cur,w.heap[k]? = some (.cells cur e (0,0)):=by
 rcases h.2 with⟨rfl,_⟩|⟨g,cap,cur,rfl,h3,h4,_⟩
 ·simp[Value.ownBlock] at hk
 ·obtain rfl:g=k:=by simpa [Value.ownBlock] using hk
  exact⟨_,h4⟩
theorem a0v{Z:Nat→Prop}{W W':World}{B:Nat}{t:TypeId}{v:Value}(h:Go.Boxed W B t v)(ht:dsk.Touch Z W W')(hT:¬Z B):Go.Boxed W' B t v:=(ht.block B h.lt hT).trans h
theorem LowAt.touch{B:Nat}{ss:List (List Int)}{pre:List Nat}{q:Option Addr}{n c:Nat}{V V6:World}(h:LowAt B ss pre q n c V)(ht:dsk.Touch (fun g=>(Value.slice q n c).ownBlock=some g∨g=B) V V6) :
  (∀B',B'≤B→CalmS softP B' V V6)∧Turn (fun b o=>b=B∨(B+2≤b∧∃cs,o = .cells cs 170 (0,0))) V V6:=by
 refine⟨fun B' hB=>⟨ht.os,ht.tape,ht.output,ht.size,fun k o hi ho=>(ht.block k (Array.getElem?_eq_some_iff.1 hi).1 fun hz => ?_).trans hi⟩,Turn.of_touch' ht fun k o hko hk => ?_⟩
 ·rcases hz with hz|rfl
  ·obtain⟨cur,hc⟩:=a8z h.own hz
   rcases ho with ho|ho
   ·have:=h.low k hz;omega
   ·rw[hi] at hc;cases hc;exact a0s (by decide) ho
  ·rcases ho with ho|ho
   ·omega
   ·have hb:V.heap[k]? = some (.cells #[.slice q n c] 270 (0,0)):=h.box
    rw[hi] at hb;cases hb;exact a0s (by decide) ho
 ·rcases hk with hk|rfl
  ·obtain⟨cur,hc⟩:=a8z h.own hk
   rw[hko] at hc
   exact Or.inr ⟨h.low k hk,cur,Option.some.inj hc⟩
  ·exact Or.inl rfl
theorem c1y{B:Nat}{ss:List (List Int)}{pre:List Nat}{q:Option Addr}{n c:Nat}{V wa:World}{o:Obj}{pa:Option Addr}{ca k:Nat}(h:LowAt B ss pre q n c V)(hB:B+2≤V.heap.size)
  (hoa:rows.Own wa 0 170 4 (.slice pa (n+1) ca) (n+1) (entsC (entsAt ss pre)++entC (entAt ss (k:Int)))) (hta:dsk.Touch (fun g=>(Value.slice q n c).ownBlock=some g) (V.alloc o) wa)
  (hla:∀g,(Value.slice pa (n+1) ca).ownBlock=some g→(Value.slice q n c).ownBlock=some g∨((V.alloc o).heap.size≤g∧g<wa.heap.size)) :
  LowAt B ss (pre++[k]) pa (n+1) ca (wa.setCell ⟨B,0,none⟩ (.slice pa (n+1) ca))∧dsk.Touch (fun g=>(Value.slice q n c).ownBlock=some g∨g=B) V (wa.setCell ⟨B,0,none⟩ (.slice pa (n+1) ca)):=by
 have hlow:∀g,(Value.slice pa (n+1) ca).ownBlock=some g→B+2≤g:=fun g hg=>by
  rcases hla g hg with h1|h1
  ·exact h.low g h1
  ·have:=h1.1
   rw[World.size_alloc] at this
   omega
 have hb8:=a0v (h.box.alloc o) hta (fun e=>by have:=h.low _ e;omega)
 refine⟨⟨hb8.set _,?_,by rw[List.length_append,← h.len];rfl,hlow⟩,dsk.Touch.setCell (S:=fun g=>(Value.slice q n c).ownBlock=some g∨g=B) (((dsk.Touch.alloc (dsk.Touch.refl _ V) _).trans hta).mono (fun i hi=>Or.inl hi)) ⟨B,0,none⟩ (Or.inr rfl) _⟩
 rw[entsAt,List.map_append,List.map_singleton,c4k]
 exact dsk.a0o (S:=fun g=>B+2≤g) hoa hlow (dsk.Keeps.set (fun g hg=>by omega) _)
set_option maxRecDepth 100000 in
set_option maxHeartbeats 4000000 in
theorem dbl_seq(w0:World)(p:Option Addr)(ss:List (List Int))(hd:Dk w0 (.pointer p) ss)(lo:Nat)(V1:World)(bd ba:Nat)(hbd:Go.Boxed V1 bd 45 (.pointer p))(hba:Go.Boxed V1 ba 227 (.func (.func 161) #[] #[]))(hlo:lo≤bd∧lo≤ba)(hlw:w0.heap.size≤lo)(m:Nat→Obj→Prop)(w:World)(hk:Keep w0 lo V1 w)(h1:∀b o,m b o→w0.heap.size≤b)(h2:∀b o,m b o→b<lo∨softP o∨V1.heap.size≤b) :
  SeqS Tryz.prog 198 #[.pointer (some ⟨bd,0,none⟩),.pointer (some ⟨ba,0,none⟩)] (fun k:Nat => #[.int .i64 (k:Int)]) softP m (fun ys=>ys=those (lowB ss (sameD ss)) 24) (fun pre=>pre <+: those (lowB ss (sameD ss)) 24) w:=by
 intro l J Jx W hW hZW hJ hJx hY h0
 have HJ:=ι hJ
 have HJX:=ι hJx
 have HY:=ι hY
 have H1:=ι h1
 have H2:=ι h2
 have HZW:=ι hZW
 have HD:=ι hd
 have HBD:=ι fun V (h:Keep w0 lo V1 V)=>h.boxed hbd hlo.1 (by decide)
 have HBA:=ι fun V (h:Keep w0 lo V1 V)=>h.boxed hba hlo.2 (by decide)
 have hK0:Keep w0 lo V1 W:=hk.calm (B:=w0.heap.size) ⟨hW.os,hW.tape,hW.output,hW.size,fun k o hi ho=>(hW.block k (Array.getElem?_eq_some_iff.1 hi).1).trans hi⟩ (Nat.le_refl _)
 have hs0:=hK0.below.size
 have HV1:=ι hK0.size
 have HS0:=ι hs0
 have hb1:=a0a (a0a (a0a (Below.refl W.heap.size W) (.cells #[.func (.yield l) #[] #[]] 131)) (.cells #[.slice none 0 0] 270)) (.cells #[.pointer p] 45)
 have hy1:=((Go.Boxed.new W 131 (.func (.yield l) #[] #[])).alloc (.cells #[.slice none 0 0] 270)).alloc (.cells #[.pointer p] 45)
 have hl1:=(Go.Boxed.new (W.alloc (.cells #[.func (.yield l) #[] #[]] 131)) 270 (.slice none 0 0)).alloc (.cells #[.pointer p] 45)
 have hd1:=Go.Boxed.new ((W.alloc (.cells #[.func (.yield l) #[] #[]] 131)).alloc (.cells #[.slice none 0 0] 270)) 45 (.pointer p)
 simp only[World.size_alloc] at hd1 hl1
 have hsz:(((W.alloc (.cells #[.func (.yield l) #[] #[]] 131)).alloc (.cells #[.slice none 0 0] 270)).alloc (.cells #[.pointer p] 45)).heap.size=W.heap.size+3:=by simp[World.size_alloc]
 have cd:((W.alloc (.cells #[.func (.yield l) #[] #[]] 131)).alloc (.cells #[.slice none 0 0] 270)).cell? ⟨bd,0,none⟩=some (.pointer p):=(((HBD.out W hK0).alloc _).alloc _).cell
 obtain⟨W2,hW2⟩:∃W2,((W.alloc (.cells #[.func (.yield l) #[] #[]] 131)).alloc (.cells #[.slice none 0 0] 270)).alloc (.cells #[.pointer p] 45)=W2:=⟨_,rfl⟩
 rw[hW2] at hb1 hy1 hl1 hd1 hsz
 have HK2:Hid (Keep w0 lo V1 W2):=ι (hK0.later hb1)
 have HY2:=ι hy1
 have HD2:=ι hd1
 have HL2:Hid (LowAt (W.heap.size+1) ss [] none 0 0 W2):=ι ⟨hl1,a2q _ _ _ _,rfl,fun k hk=>by simp[Value.ownBlock] at hk⟩
 have HSZ:=ι hsz
 have HJ2:Hid (J [] W2):=ι (hJ _ _ _ h0 (CalmS.of_below hb1))
 have HLA:=ι fun k hu=>c9d (ss:=ss) (sameD ss) (k:=k) hu
 have HPD:Hid ((those (entB ss) 24).filter (lowB ss (sameD ss))=those (lowB ss (sameD ss)) 24):=ι (a6t (fun k h=>c3a (sameD ss) k h) 24)
 generalize (lowB ss (sameD ss))=pp at *
 clear hJ hJx hY h1 h2 hbd hba hlo hlw hk hW hZW hK0 hb1 hy1 hl1 hd1 hsz h0 hd hs0
 refine(callsIn_wide (n:=10)).1 (callsIn_of_wp_marks Tryz.func198 rfl trivial ?_ rfl)
 simp only[Tryz.ntmps198,List.size_toArray,List.length_cons,List.length_nil,Nat.reduceAdd,Nat.reduceSub,Array.replicate_succ,Array.replicate_zero,List.push_toArray,List.append_toArray,List.nil_append,List.cons_append]
 gi_wp2_with (refine⟨trivial,?_⟩;gi_at_call 105;refine(callsIn_wide.2 (a4v _ _)).mono ?_;rintro e w2 ⟨rfl,rfl⟩)
 try rw[hW2]
 clear hW2 cd
 have HWM:Hid (W.heap.size≤W2.heap.size):=ι (by have:=HSZ.out;omega)
 refine a1w (gf:=150) (lb := #[.pointer (some ⟨W.heap.size+1+1,0,none⟩)]) rfl (enters_of Tryz.func150 (by kernel_rfl) rfl)
  (m:=fun b o=>m b o∨(b=W.heap.size+1∨(W2.heap.size≤b∧∃cs,o = .cells cs 170 (0,0))))
  (a4m softR w0 (.pointer p) ss HD.out (W.heap.size+1+1) (fun b o=>b=W2.heap.size+1∨(m b o∨(b=W.heap.size+1∨(W2.heap.size≤b∧∃cs,o = .cells cs 170 (0,0))))) W2 HK2.out.below HD2.out (fun b o hb=>by
   have h1:=HSZ.out
   have h2:=HS0.out
   rcases hb with hb|hb|hb|hb
   ·omega
   ·exact H1.out b o hb
   ·omega
   ·omega) (fun v hb=>by
   have h1:=HSZ.out
   rcases hb with hb|hb|hb|hb
   ·omega
   ·rcases HZW.out _ _ hb with h|h
    ·omega
    ·exact a0s (by decide) h
   ·omega
   ·omega)) (fun b o h=>by
   have h1:=HSZ.out
   rcases h with h|h|⟨_,cs,rfl⟩
   ·rcases HZW.out b o h with h|h
    ·exact Or.inl (by omega)
    ·exact Or.inr (Or.inl h)
   ·exact Or.inl (by omega)
   ·exact Or.inr (Or.inr ⟨cs,_,rfl⟩)) b0u (fun _=>rfl)
  (fun pre V=>J (pre.filter pp) V∧Go.Boxed V W.heap.size 131 (.func (.yield l) #[] #[])∧Keep w0 lo V1 V∧W.heap.size≤V.heap.size∧∃q n c,LowAt (W.heap.size+1) ss pre q n c V)
  (fun c pre V=>c = .ret∧Jx (pre.filter pp) V)
  (fun s A B h hc=>⟨HJ.out _ _ _ h.1 (CalmS.of a0j (hc.mono HWM.out)),hc.boxed h.2.1,h.2.2.1.calm hc (by have:=HWM.out;have:=HS0.out;omega),Nat.le_trans h.2.2.2.1 hc.size,by obtain⟨q,n,c,hl⟩:=h.2.2.2.2;exact⟨q,n,c,hl.calm hc⟩⟩)
  (fun c s A B h hc=>⟨h.1,HJX.out _ _ _ h.2 (CalmS.of a0j (hc.mono HWM.out))⟩)
  ⟨HJ2.out,HY2.out,HK2.out,HWM.out,none,0,0,HL2.out⟩
  (fun pre k a' V=>(J (pre.filter pp) V∧Go.Boxed V W.heap.size 131 (.func (.yield l) #[] #[])∧Keep w0 lo V1 V∧W.heap.size≤V.heap.size∧∃q n c,LowAt (W.heap.size+1) ss pre q n c V)∧∃Bx,(AtE V Bx (entAt ss (k:Int))∧W2.heap.size≤Bx)∧a'={ tmps := #[.func (.yield l) #[] #[],.pointer (some ⟨bd,0,none⟩),.pointer (some ⟨ba,0,none⟩),.pointer (some ⟨W.heap.size,0,none⟩),.pointer (some ⟨W.heap.size+1,0,none⟩),.int .i64 (k:Int),.pointer (some ⟨Bx,0,none⟩),undef,.pointer p,.func (.func 150) #[] #[.pointer (some ⟨W.heap.size+1+1,0,none⟩)],.int .i64 (k:Int),aggE (entAt ss (k:Int)),undef,undef,undef,undef,undef,undef,undef,undef,undef,undef,undef,undef,undef,undef],defers:=[] })
  (fun s k a' A B h hc=>by
   obtain⟨h1,Bx,h2,h3⟩:=h
   exact⟨⟨HJ.out _ _ _ h1.1 (CalmS.of a0j (hc.mono HWM.out)),hc.boxed h1.2.1,h1.2.2.1.calm hc (by have:=HWM.out;have:=HS0.out;omega),Nat.le_trans h1.2.2.2.1 hc.size,by obtain⟨q,n,c,hl⟩:=h1.2.2.2.2;exact⟨q,n,c,hl.calm hc⟩⟩,Bx,⟨hc.block _ _ h2.1 (Or.inr rfl),h2.2⟩,h3⟩)
  ?assign ?body ?done ?stop
 case assign =>
  rintro l2 pre k V hI hsz _
  generalize entAt ss (k:Int)=x
  obtain⟨u,pa,nm,tg⟩:=x
  have HI2:=ι hI
  clear hI
  gi_wp2
  have hb:=a0a (Below.refl V.heap.size V) (.cells #[.bool u,.int .i64 pa,.string nm,.int .i64 tg] 170)
  exact⟨⟨⟨HJ.out _ _ _ HI2.out.1 (CalmS.of_below hb),HI2.out.2.1.alloc _,HI2.out.2.2.1.later hb,Nat.le_trans HI2.out.2.2.2.1 hb.size,by obtain⟨q,n,c,hl⟩:=HI2.out.2.2.2.2;exact⟨q,n,c,hl.calm (B0:=0) (rng.Calm.of_below hb)⟩⟩,V.heap.size,⟨a2t V ⟨u,pa,nm,tg⟩,hsz⟩,rfl⟩,Turn.of_below hb⟩
 case body =>
  rintro l2 pre k a' V ⟨hI,Bx,⟨hX,hXl⟩,rfl⟩ hsz hsp
  have huk:entB ss k=true:=by
   have:=hsp.subset (List.mem_append_right _ (List.mem_singleton.2 rfl))
   exact(those_mem.1 this).2
  have hk24:k<24:=by
   have:=hsp.subset (List.mem_append_right _ (List.mem_singleton.2 rfl))
   exact(those_mem.1 this).1
  have hpe:pre=those (entB ss) k:=b0o hsp
  have hpk:pp k=true→(pre.filter pp)++[k] <+: those pp 24:=fun hk=>by
   have h:=hsp.filter pp
   rw[HPD.out,List.filter_append] at h
   simpa [hk] using h
  have HPK:=ι hpk
  have HFY:Hid (pp k=true→(pre++[k]).filter pp=pre.filter pp++[k]):=ι fun hk=>by rw[List.filter_append];simp[hk]
  have HFN:Hid (pp k=false→(pre++[k]).filter pp=pre.filter pp):=ι fun hk=>by rw[List.filter_append];simp[hk]
  have HYk:=ι fun V' hj hs hp=>HY.out (pre.filter pp) k V' hj hs hp
  obtain⟨q,n,c,hL⟩:=hI.2.2.2.2
  have hpl:pre.length≤24:=by rw[hpe];exact Nat.le_trans (b0c _ _) (by omega)
  have HAN:Hid ((entsAt ss pre).any (fun y=>((entAt ss (k:Int)).parent == y.parent) && ((entAt ss (k:Int)).name.toList == y.name.toList))=pp k):=ι (by
   rw[HLA.out k huk,← hpe,entsAt,List.any_map]
   congr 1
   funext j
   show _=sameD ss k j
   rw[d3v]
   rw[Function.comp,BEq.comm (a:=(entAt ss (k:Int)).parent),BEq.comm (a:=(entAt ss (k:Int)).name.toList)])
  have HCT:=ι (ccontD V ba Bx (entAt ss (k:Int)) (entsAt ss pre) q n c (HBA.out V hI.2.2.1) hX hL.own.rd (by rw[hL.len];omega))
  have HNL:Hid (n≤24):=ι (by rw[hL.len];exact hpl)
  have HI2:=ι hI
  have HL:=ι hL
  have HIL:=ι fun V' (hb:Below V.heap.size V V')=>(show J (pre.filter pp) V'∧Go.Boxed V' W.heap.size 131 (.func (.yield l) #[] #[])∧Keep w0 lo V1 V'∧W.heap.size≤V'.heap.size∧LowAt (W.heap.size+1) ss pre q n c V' from⟨HJ.out _ _ _ hI.1 (CalmS.of_below hb),(rng.Calm.of_below (B:=0) hb).boxed hI.2.1,hI.2.2.1.later hb,Nat.le_trans hI.2.2.2.1 hb.size,hL.calm (rng.Calm.of_below (B:=0) hb)⟩)
  have HEX:Hid (∀x,entAt ss (k:Int)=x→∀(V6 V7:World) (o:Obj) (q':Option Addr) (n' c':Nat) (pa':Option Addr) (ca:Nat),LowAt (W.heap.size+1) ss pre q' n' c' V6→W.heap.size+1+2≤V6.heap.size→rows.Own V7 0 170 4 (.slice pa' (n'+1) ca) (n'+1) (entsC (entsAt ss pre)++entC x)→dsk.Touch (fun g=>(Value.slice q' n' c').ownBlock=some g) (V6.alloc o) V7→(∀g,(Value.slice pa' (n'+1) ca).ownBlock=some g→(Value.slice q' n' c').ownBlock=some g∨((V6.alloc o).heap.size≤g∧g<V7.heap.size))→LowAt (W.heap.size+1) ss (pre++[k]) pa' (n'+1) ca (V7.setCell ⟨W.heap.size+1,0,none⟩ (.slice pa' (n'+1) ca))∧dsk.Touch (fun g=>(Value.slice q' n' c').ownBlock=some g∨g=W.heap.size+1) V6 (V7.setCell ⟨W.heap.size+1,0,none⟩ (.slice pa' (n'+1) ca))):=ι fun x hx V6 V7 o q' n' c' pa' ca h1 h2 h3 h4 h5=>by subst hx;exact c1y h1 h2 h3 h4 h5
  have HEX3:Hid (∀x,entAt ss (k:Int)=x→∀(Lp:List Nat) (V6 V7:World) (o:Obj) (q':Option Addr) (n' c':Nat) (pa':Option Addr) (ca:Nat),(J Lp V6∧Go.Boxed V6 W.heap.size 131 (.func (.yield l) #[] #[])∧Keep w0 lo V1 V6∧W.heap.size≤V6.heap.size∧LowAt (W.heap.size+1) ss pre q' n' c' V6)→V.heap.size≤V6.heap.size→rows.Own V7 0 170 4 (.slice pa' (n'+1) ca) (n'+1) (entsC (entsAt ss pre)++entC x)→dsk.Touch (fun g=>(Value.slice q' n' c').ownBlock=some g) (V6.alloc o) V7→(∀g,(Value.slice pa' (n'+1) ca).ownBlock=some g→(Value.slice q' n' c').ownBlock=some g∨((V6.alloc o).heap.size≤g∧g<V7.heap.size)) →
    (J Lp (V7.setCell ⟨W.heap.size+1,0,none⟩ (.slice pa' (n'+1) ca))∧Go.Boxed (V7.setCell ⟨W.heap.size+1,0,none⟩ (.slice pa' (n'+1) ca)) W.heap.size 131 (.func (.yield l) #[] #[])∧Keep w0 lo V1 (V7.setCell ⟨W.heap.size+1,0,none⟩ (.slice pa' (n'+1) ca))∧W.heap.size≤(V7.setCell ⟨W.heap.size+1,0,none⟩ (.slice pa' (n'+1) ca)).heap.size∧∃q n c,LowAt (W.heap.size+1) ss (pre++[k]) q n c (V7.setCell ⟨W.heap.size+1,0,none⟩ (.slice pa' (n'+1) ca)))∧Turn (fun b o=>m b o∨(b=W.heap.size+1∨(W2.heap.size≤b∧∃cs,o = .cells cs 170 (0,0)))) V6 (V7.setCell ⟨W.heap.size+1,0,none⟩ (.slice pa' (n'+1) ca))):=ι fun x hx Lp V6 V7 o q' n' c' pa' ca h1 h2 h3 h4 h5=>by
   have hz:=HSZ.out
   have h0:=HS0.out
   have h01:=HV1.out
   obtain⟨hl4,ht4⟩:=HEX.out x hx V6 V7 o q' n' c' pa' ca h1.2.2.2.2 (by omega) h3 h4 h5
   obtain⟨hc5,ht5⟩:=h1.2.2.2.2.touch ht4
   refine⟨⟨HJ.out _ _ _ h1.1 (hc5 _ (by omega)),ht5.keep _ _ h1.2.1 (fun hz=>by omega),h1.2.2.1.turn ht5 (fun b o hz=>by omega) (fun b o hz=>Or.inr (Or.inr (by omega))),Nat.le_trans h1.2.2.2.1 ht5.size,_,_,_,hl4⟩,ht5.mono fun b o hb=>Or.inr (hb.imp id fun h=>⟨by omega,h.2⟩)⟩
  have cl:=hL.box.cell
  have cy:=hI.2.1.cell
  have hbx:Bx<V.heap.size:=(Array.getElem?_eq_some_iff.1 hX).1
  rw[HAN.out] at HCT
  have HX:=ι hX
  clear hI hsp huk hpk hpe hL hpl
  obtain⟨x,hx⟩:∃x,entAt ss (k:Int)=x:=⟨_,rfl⟩
  have HEX2:=ι (HEX3.out x hx)
  rw[hx] at HX hX ⊢
  clear hx HEX HEX3 HAN
  obtain⟨u,pa,nm,tg⟩:=x
  have x0:V.cell? ⟨Bx,0,none⟩=some (.bool u):=hX.cell0
  have x1:V.cell? ⟨Bx,1,none⟩=some (.int .i64 pa):=hX.cell1
  have x2:V.cell? ⟨Bx,2,none⟩=some (.string nm):=hX.cell2
  have x3:V.cell? ⟨Bx,3,none⟩=some (.int .i64 tg):=hX.cell3
  clear hX
  cases hb:pp k with
  | false =>
   rw[hb] at HCT
   have HN:=ι (HFN.out hb)
   clear hb HYk
   gi_wp2_with (first|(refine⟨trivial,?_⟩;gi_at_call 199;refine(a2h HCT.out).mono ?_;rintro e w3 ⟨rfl,hb3⟩;have HB3:=ι hb3;have cl3:w3.cell? ⟨W.heap.size+1,0,none⟩=some (.slice q n c):=((rng.Calm.of_below (B:=0) hb3).boxed HL.out.box).cell;have e0:=(hb3.cell (p:=⟨Bx,0,none⟩) hbx).trans x0;have e1:=(hb3.cell (p:=⟨Bx,1,none⟩) hbx).trans x1;have e2:=(hb3.cell (p:=⟨Bx,2,none⟩) hbx).trans x2;have e3:=(hb3.cell (p:=⟨Bx,3,none⟩) hbx).trans x3;clear hb3)|(refine a2b rfl ?_;refine a0g a1d (by decide) rfl (.tmp 23) rfl (entC ⟨u,pa,nm,tg⟩) rfl rfl ?_;refine a1f ?_)|(gi_at_builtin;refine a2b rfl ?_;refine a3c a1d rfl (.tmp 22) (.tmp 24) rfl _ n _ rfl (((HIL.out w3 HB3.out).2.2.2.2).own.alloc _) _ 1 (entC ⟨u,pa,nm,tg⟩) rfl (a0p _ _ _ _ rfl) (fun v hv=>by simp[entC] at hv;rcases hv with rfl|rfl|rfl|rfl<;>rfl) (by have:=HNL.out;omega) ?_;intro pa' ca wa hoa hta hla;have hB8:=a0v (((HIL.out w3 HB3.out).2.2.2.2).box.alloc (.cells (entC ⟨u,pa,nm,tg⟩).toArray 170)) hta (fun e=>by have:=HL.out.low _ e;omega);have c8a:=hB8.cell;have f8a:=hB8.frozen;have HOA:=ι hoa;have HTA:=ι hta;have HLA2:=ι hla;clear hoa hta hla hB8;refine a1f ?_))
   refine⟨fun _ h=>(by cases h),?_⟩
   gi_wp2_with (first|(refine a2b rfl ?_;refine a0g a1d (by decide) rfl (.tmp 23) rfl (entC ⟨u,pa,nm,tg⟩) rfl rfl ?_;refine a1f ?_)|(gi_at_builtin;refine a2b rfl ?_;refine a3c a1d rfl (.tmp 22) (.tmp 24) rfl _ n _ rfl (((HIL.out w3 HB3.out).2.2.2.2).own.alloc _) _ 1 (entC ⟨u,pa,nm,tg⟩) rfl (a0p _ _ _ _ rfl) (fun v hv=>by simp[entC] at hv;rcases hv with rfl|rfl|rfl|rfl<;>rfl) (by have:=HNL.out;omega) ?_;intro pa' ca wa hoa hta hla;have hB8:=a0v (((HIL.out w3 HB3.out).2.2.2.2).box.alloc (.cells (entC ⟨u,pa,nm,tg⟩).toArray 170)) hta (fun e=>by have:=HL.out.low _ e;omega);have c8a:=hB8.cell;have f8a:=hB8.frozen;have HOA:=ι hoa;have HTA:=ι hta;have HLA2:=ι hla;clear hoa hta hla hB8;refine a1f ?_))
   have h3:=HIL.out _ HB3.out
   obtain⟨r1,r2⟩:=HEX2.out _ _ _ _ _ _ _ _ _ h3 HB3.out.size HOA.out HTA.out HLA2.out
   exact⟨⟨by rw[HN.out];exact r1.1,r1.2⟩,(Turn.of_below HB3.out).trans r2⟩
  | true =>
   rw[hb] at HCT
   have HYY:=ι (HFY.out hb)
   have HYw:=ι fun w3 (hb3:Below V.heap.size V w3)=>a2d 8 (HYk.out w3 (HIL.out w3 hb3).1 (HIL.out w3 hb3).2.2.2.1 (HPK.out hb))
   clear hb
   gi_wp2_with (first|(refine⟨trivial,?_⟩;gi_at_call 199;refine(a2h HCT.out).mono ?_;rintro e w3 ⟨rfl,hb3⟩;have HB3:=ι hb3;have cl3:w3.cell? ⟨W.heap.size+1,0,none⟩=some (.slice q n c):=((rng.Calm.of_below (B:=0) hb3).boxed HL.out.box).cell;have e0:=(hb3.cell (p:=⟨Bx,0,none⟩) hbx).trans x0;have e1:=(hb3.cell (p:=⟨Bx,1,none⟩) hbx).trans x1;have e2:=(hb3.cell (p:=⟨Bx,2,none⟩) hbx).trans x2;have e3:=(hb3.cell (p:=⟨Bx,3,none⟩) hbx).trans x3;have HYQ:=HYw.out w3 hb3;obtain⟨fn,tmps,assign,body,hy,hR⟩:=HYQ;have ey:=(HIL.out w3 hb3).2.1.cell;clear hb3)|(refine a2b rfl ?_;refine a0g a1d (by decide) rfl (.tmp 23) rfl (entC ⟨u,pa,nm,tg⟩) rfl rfl ?_;refine a1f ?_)|(gi_at_builtin;refine a2b rfl ?_;refine a3c a1d rfl (.tmp 22) (.tmp 24) rfl _ n _ rfl (((HIL.out w3 HB3.out).2.2.2.2).own.alloc _) _ 1 (entC ⟨u,pa,nm,tg⟩) rfl (a0p _ _ _ _ rfl) (fun v hv=>by simp[entC] at hv;rcases hv with rfl|rfl|rfl|rfl<;>rfl) (by have:=HNL.out;omega) ?_;intro pa' ca wa hoa hta hla;have hB8:=a0v (((HIL.out w3 HB3.out).2.2.2.2).box.alloc (.cells (entC ⟨u,pa,nm,tg⟩).toArray 170)) hta (fun e=>by have:=HL.out.low _ e;omega);have c8a:=hB8.cell;have f8a:=hB8.frozen;have HOA:=ι hoa;have HTA:=ι hta;have HLA2:=ι hla;clear hoa hta hla hB8;refine a1f ?_))
   refine RoundIn.mono (F:=Fence.wide.inRound l2) hR ?_
   rintro e W4 (⟨rfl,hJ4,hT4⟩|⟨rfl,hJx4,hT4⟩)
   ·have HJ4:=ι hJ4
    have HT4:=ι hT4
    have hX4:AtE W4 Bx ⟨u,pa,nm,tg⟩:=hT4.keep _ _ (HX.out.later HB3.out) (fun hz=>by
     have:=HSZ.out
     rcases HZW.out _ _ hz with hh|hh
     ·omega
     ·exact a0s (by decide) hh)
    have h3:=HIL.out _ HB3.out
    have HL4:Hid (LowAt (W.heap.size+1) ss pre q n c W4):=ι (h3.2.2.2.2.turn hT4 fun g o hz=>(HZW.out g o hz).imp (fun h=>by omega) id)
    have H34:Hid (J (pre.filter pp++[k]) W4∧Go.Boxed W4 W.heap.size 131 (.func (.yield l) #[] #[])∧Keep w0 lo V1 W4∧W.heap.size≤W4.heap.size∧LowAt (W.heap.size+1) ss pre q n c W4):=ι ⟨hJ4,hT4.keep _ _ h3.2.1 (fun hz=>by
      rcases HZW.out _ _ hz with hh|hh
      ·omega
      ·exact a0s (by decide) hh),h3.2.2.1.turn hT4 (fun b o hz=>H1.out b o hz) (fun b o hz=>H2.out b o hz),Nat.le_trans h3.2.2.2.1 hT4.size,HL4.out⟩
    have x0:W4.cell? ⟨Bx,0,none⟩=some (.bool u):=hX4.cell0
    have x1:W4.cell? ⟨Bx,1,none⟩=some (.int .i64 pa):=hX4.cell1
    have x2:W4.cell? ⟨Bx,2,none⟩=some (.string nm):=hX4.cell2
    have x3:W4.cell? ⟨Bx,3,none⟩=some (.int .i64 tg):=hX4.cell3
    have cl4:W4.cell? ⟨W.heap.size+1,0,none⟩=some (.slice q n c):=HL4.out.box.cell
    clear hy hR hJ4 hT4 hX4 h3
    gi_wp2_with (first|(refine a2b rfl ?_;refine a0g a1d (by decide) rfl (.tmp 23) rfl (entC ⟨u,pa,nm,tg⟩) rfl rfl ?_;refine a1f ?_)|(gi_at_builtin;refine a2b rfl ?_;refine a3c a1d rfl (.tmp 22) (.tmp 24) rfl _ n _ rfl (HL4.out.own.alloc _) _ 1 (entC ⟨u,pa,nm,tg⟩) rfl (a0p _ _ _ _ rfl) (fun v hv=>by simp[entC] at hv;rcases hv with rfl|rfl|rfl|rfl<;>rfl) (by have:=HNL.out;omega) ?_;intro pa' ca wa hoa hta hla;have hB8:=a0v (HL4.out.box.alloc (.cells (entC ⟨u,pa,nm,tg⟩).toArray 170)) hta (fun e=>by have:=HL4.out.low _ e;omega);have c8a:=hB8.cell;have f8a:=hB8.frozen;have HOA:=ι hoa;have HTA:=ι hta;have HLA2:=ι hla;clear hoa hta hla hB8;refine a1f ?_))
    obtain⟨r1,r2⟩:=HEX2.out _ _ _ _ _ _ _ _ _ H34.out (Nat.le_trans HB3.out.size HT4.out.size) HOA.out HTA.out HLA2.out
    exact⟨⟨by rw[HYY.out];exact r1.1,r1.2⟩,((Turn.of_below HB3.out).trans (HT4.out.mono fun j o hz=>Or.inl hz)).trans r2⟩
   ·have HJX4:=ι hJx4
    have HT4:=ι hT4
    clear hy hR hJx4 hT4
    gi_wp2
    exact⟨⟨rfl,by rw[HYY.out];exact HJX4.out⟩,(Turn.of_below HB3.out).trans (HT4.out.mono fun j o hz=>hz.imp (fun h=>by have:=HSZ.out;omega) Or.inl)⟩
 case done =>
  rintro D ys V hD rfl hI hK
  have HI2:=ι hI
  clear hI
  gi_wp2
  refine⟨by simp,.inl ⟨_,_,rfl,run_takeDeferred hK,?_⟩⟩
  refine⟨_,results_none rfl _ _ _,⟨_,rfl⟩,.inl ⟨_,rfl,?_⟩⟩
  have h:=HI2.out.1
  rw[HPD.out] at h
  exact HJ.out _ _ _ h (CalmS.of a0j (rng.Calm.putObj _ (by have:=HSZ.out;omega) hK rfl))
 case stop =>
  rintro D c pre V hD hp ⟨rfl,hx⟩ hK
  have HX:=ι hx
  clear hx
  gi_wp2
  refine⟨by simp,.inl ⟨_,_,rfl,run_takeDeferred hK,?_⟩⟩
  refine⟨_,results_none rfl _ _ _,⟨_,rfl⟩,.inr ⟨_,?_,HJX.out _ _ _ HX.out (CalmS.of a0j (rng.Calm.putObj _ (by have:=HSZ.out;omega) hK rfl))⟩⟩
  rw[← HPD.out]
  exact hp.filter _
end lk
namespace lk
set_option maxRecDepth 100000
open Go.ChangeShapes Go.WideShapes Go.ChangeAt Go.RowKit
open rows
open sec
open dsk (a0g a0p a3c)
open ly
open rng
attribute [local go_sem] Oper.semAt_some
set_option maxRecDepth 100000 in
set_option maxHeartbeats 4000000 in
theorem lnk_seq(w0:World)(p:Option Addr)(ss:List (List Int))(hd:Dk w0 (.pointer p) ss)(lo:Nat)(V1:World)(bd ba:Nat)(hbd:Go.Boxed V1 bd 45 (.pointer p))(hba:Go.Boxed V1 ba 227 (.func (.func 162) #[] #[]))(hlo:lo≤bd∧lo≤ba)(hlw:w0.heap.size≤lo)(m:Nat→Obj→Prop)(w:World)(hk:Keep w0 lo V1 w)(h1:∀b o,m b o→w0.heap.size≤b)(h2:∀b o,m b o→b<lo∨softP o∨V1.heap.size≤b) :
  SeqS Tryz.prog 198 #[.pointer (some ⟨bd,0,none⟩),.pointer (some ⟨ba,0,none⟩)] (fun k:Nat => #[.int .i64 (k:Int)]) softP m (fun ys=>ys=those (lowB ss (sameL ss)) 24) (fun pre=>pre <+: those (lowB ss (sameL ss)) 24) w:=by
 intro l J Jx W hW hZW hJ hJx hY h0
 have HJ:=ι hJ
 have HJX:=ι hJx
 have HY:=ι hY
 have H1:=ι h1
 have H2:=ι h2
 have HZW:=ι hZW
 have HD:=ι hd
 have HBD:=ι fun V (h:Keep w0 lo V1 V)=>h.boxed hbd hlo.1 (by decide)
 have HBA:=ι fun V (h:Keep w0 lo V1 V)=>h.boxed hba hlo.2 (by decide)
 have hK0:Keep w0 lo V1 W:=hk.calm (B:=w0.heap.size) ⟨hW.os,hW.tape,hW.output,hW.size,fun k o hi ho=>(hW.block k (Array.getElem?_eq_some_iff.1 hi).1).trans hi⟩ (Nat.le_refl _)
 have hs0:=hK0.below.size
 have HV1:=ι hK0.size
 have HS0:=ι hs0
 have hb1:=a0a (a0a (a0a (Below.refl W.heap.size W) (.cells #[.func (.yield l) #[] #[]] 131)) (.cells #[.slice none 0 0] 270)) (.cells #[.pointer p] 45)
 have hy1:=((Go.Boxed.new W 131 (.func (.yield l) #[] #[])).alloc (.cells #[.slice none 0 0] 270)).alloc (.cells #[.pointer p] 45)
 have hl1:=(Go.Boxed.new (W.alloc (.cells #[.func (.yield l) #[] #[]] 131)) 270 (.slice none 0 0)).alloc (.cells #[.pointer p] 45)
 have hd1:=Go.Boxed.new ((W.alloc (.cells #[.func (.yield l) #[] #[]] 131)).alloc (.cells #[.slice none 0 0] 270)) 45 (.pointer p)
 simp only[World.size_alloc] at hd1 hl1
 have hsz:(((W.alloc (.cells #[.func (.yield l) #[] #[]] 131)).alloc (.cells #[.slice none 0 0] 270)).alloc (.cells #[.pointer p] 45)).heap.size=W.heap.size+3:=by simp[World.size_alloc]
 have cd:((W.alloc (.cells #[.func (.yield l) #[] #[]] 131)).alloc (.cells #[.slice none 0 0] 270)).cell? ⟨bd,0,none⟩=some (.pointer p):=(((HBD.out W hK0).alloc _).alloc _).cell
 obtain⟨W2,hW2⟩:∃W2,((W.alloc (.cells #[.func (.yield l) #[] #[]] 131)).alloc (.cells #[.slice none 0 0] 270)).alloc (.cells #[.pointer p] 45)=W2:=⟨_,rfl⟩
 rw[hW2] at hb1 hy1 hl1 hd1 hsz
 have HK2:Hid (Keep w0 lo V1 W2):=ι (hK0.later hb1)
 have HY2:=ι hy1
 have HD2:=ι hd1
 have HL2:Hid (LowAt (W.heap.size+1) ss [] none 0 0 W2):=ι ⟨hl1,a2q _ _ _ _,rfl,fun k hk=>by simp[Value.ownBlock] at hk⟩
 have HSZ:=ι hsz
 have HJ2:Hid (J [] W2):=ι (hJ _ _ _ h0 (CalmS.of_below hb1))
 have HLA:=ι fun k hu=>c9d (ss:=ss) (sameL ss) (k:=k) hu
 have HPD:Hid ((those (entB ss) 24).filter (lowB ss (sameL ss))=those (lowB ss (sameL ss)) 24):=ι (a6t (fun k h=>c3a (sameL ss) k h) 24)
 generalize (lowB ss (sameL ss))=pp at *
 clear hJ hJx hY h1 h2 hbd hba hlo hlw hk hW hZW hK0 hb1 hy1 hl1 hd1 hsz h0 hd hs0
 refine(callsIn_wide (n:=10)).1 (callsIn_of_wp_marks Tryz.func198 rfl trivial ?_ rfl)
 simp only[Tryz.ntmps198,List.size_toArray,List.length_cons,List.length_nil,Nat.reduceAdd,Nat.reduceSub,Array.replicate_succ,Array.replicate_zero,List.push_toArray,List.append_toArray,List.nil_append,List.cons_append]
 gi_wp2_with (refine⟨trivial,?_⟩;gi_at_call 105;refine(callsIn_wide.2 (a4v _ _)).mono ?_;rintro e w2 ⟨rfl,rfl⟩)
 try rw[hW2]
 clear hW2 cd
 have HWM:Hid (W.heap.size≤W2.heap.size):=ι (by have:=HSZ.out;omega)
 refine a1w (gf:=150) (lb := #[.pointer (some ⟨W.heap.size+1+1,0,none⟩)]) rfl (enters_of Tryz.func150 (by kernel_rfl) rfl)
  (m:=fun b o=>m b o∨(b=W.heap.size+1∨(W2.heap.size≤b∧∃cs,o = .cells cs 170 (0,0))))
  (a4m softR w0 (.pointer p) ss HD.out (W.heap.size+1+1) (fun b o=>b=W2.heap.size+1∨(m b o∨(b=W.heap.size+1∨(W2.heap.size≤b∧∃cs,o = .cells cs 170 (0,0))))) W2 HK2.out.below HD2.out (fun b o hb=>by
   have h1:=HSZ.out
   have h2:=HS0.out
   rcases hb with hb|hb|hb|hb
   ·omega
   ·exact H1.out b o hb
   ·omega
   ·omega) (fun v hb=>by
   have h1:=HSZ.out
   rcases hb with hb|hb|hb|hb
   ·omega
   ·rcases HZW.out _ _ hb with h|h
    ·omega
    ·exact a0s (by decide) h
   ·omega
   ·omega)) (fun b o h=>by
   have h1:=HSZ.out
   rcases h with h|h|⟨_,cs,rfl⟩
   ·rcases HZW.out b o h with h|h
    ·exact Or.inl (by omega)
    ·exact Or.inr (Or.inl h)
   ·exact Or.inl (by omega)
   ·exact Or.inr (Or.inr ⟨cs,_,rfl⟩)) b0u (fun _=>rfl)
  (fun pre V=>J (pre.filter pp) V∧Go.Boxed V W.heap.size 131 (.func (.yield l) #[] #[])∧Keep w0 lo V1 V∧W.heap.size≤V.heap.size∧∃q n c,LowAt (W.heap.size+1) ss pre q n c V)
  (fun c pre V=>c = .ret∧Jx (pre.filter pp) V)
  (fun s A B h hc=>⟨HJ.out _ _ _ h.1 (CalmS.of a0j (hc.mono HWM.out)),hc.boxed h.2.1,h.2.2.1.calm hc (by have:=HWM.out;have:=HS0.out;omega),Nat.le_trans h.2.2.2.1 hc.size,by obtain⟨q,n,c,hl⟩:=h.2.2.2.2;exact⟨q,n,c,hl.calm hc⟩⟩)
  (fun c s A B h hc=>⟨h.1,HJX.out _ _ _ h.2 (CalmS.of a0j (hc.mono HWM.out))⟩)
  ⟨HJ2.out,HY2.out,HK2.out,HWM.out,none,0,0,HL2.out⟩
  (fun pre k a' V=>(J (pre.filter pp) V∧Go.Boxed V W.heap.size 131 (.func (.yield l) #[] #[])∧Keep w0 lo V1 V∧W.heap.size≤V.heap.size∧∃q n c,LowAt (W.heap.size+1) ss pre q n c V)∧∃Bx,(AtE V Bx (entAt ss (k:Int))∧W2.heap.size≤Bx)∧a'={ tmps := #[.func (.yield l) #[] #[],.pointer (some ⟨bd,0,none⟩),.pointer (some ⟨ba,0,none⟩),.pointer (some ⟨W.heap.size,0,none⟩),.pointer (some ⟨W.heap.size+1,0,none⟩),.int .i64 (k:Int),.pointer (some ⟨Bx,0,none⟩),undef,.pointer p,.func (.func 150) #[] #[.pointer (some ⟨W.heap.size+1+1,0,none⟩)],.int .i64 (k:Int),aggE (entAt ss (k:Int)),undef,undef,undef,undef,undef,undef,undef,undef,undef,undef,undef,undef,undef,undef],defers:=[] })
  (fun s k a' A B h hc=>by
   obtain⟨h1,Bx,h2,h3⟩:=h
   exact⟨⟨HJ.out _ _ _ h1.1 (CalmS.of a0j (hc.mono HWM.out)),hc.boxed h1.2.1,h1.2.2.1.calm hc (by have:=HWM.out;have:=HS0.out;omega),Nat.le_trans h1.2.2.2.1 hc.size,by obtain⟨q,n,c,hl⟩:=h1.2.2.2.2;exact⟨q,n,c,hl.calm hc⟩⟩,Bx,⟨hc.block _ _ h2.1 (Or.inr rfl),h2.2⟩,h3⟩)
  ?assign ?body ?done ?stop
 case assign =>
  rintro l2 pre k V hI hsz _
  generalize entAt ss (k:Int)=x
  obtain⟨u,pa,nm,tg⟩:=x
  have HI2:=ι hI
  clear hI
  gi_wp2
  have hb:=a0a (Below.refl V.heap.size V) (.cells #[.bool u,.int .i64 pa,.string nm,.int .i64 tg] 170)
  exact⟨⟨⟨HJ.out _ _ _ HI2.out.1 (CalmS.of_below hb),HI2.out.2.1.alloc _,HI2.out.2.2.1.later hb,Nat.le_trans HI2.out.2.2.2.1 hb.size,by obtain⟨q,n,c,hl⟩:=HI2.out.2.2.2.2;exact⟨q,n,c,hl.calm (B0:=0) (rng.Calm.of_below hb)⟩⟩,V.heap.size,⟨a2t V ⟨u,pa,nm,tg⟩,hsz⟩,rfl⟩,Turn.of_below hb⟩
 case body =>
  rintro l2 pre k a' V ⟨hI,Bx,⟨hX,hXl⟩,rfl⟩ hsz hsp
  have huk:entB ss k=true:=by
   have:=hsp.subset (List.mem_append_right _ (List.mem_singleton.2 rfl))
   exact(those_mem.1 this).2
  have hk24:k<24:=by
   have:=hsp.subset (List.mem_append_right _ (List.mem_singleton.2 rfl))
   exact(those_mem.1 this).1
  have hpe:pre=those (entB ss) k:=b0o hsp
  have hpk:pp k=true→(pre.filter pp)++[k] <+: those pp 24:=fun hk=>by
   have h:=hsp.filter pp
   rw[HPD.out,List.filter_append] at h
   simpa [hk] using h
  have HPK:=ι hpk
  have HFY:Hid (pp k=true→(pre++[k]).filter pp=pre.filter pp++[k]):=ι fun hk=>by rw[List.filter_append];simp[hk]
  have HFN:Hid (pp k=false→(pre++[k]).filter pp=pre.filter pp):=ι fun hk=>by rw[List.filter_append];simp[hk]
  have HYk:=ι fun V' hj hs hp=>HY.out (pre.filter pp) k V' hj hs hp
  obtain⟨q,n,c,hL⟩:=hI.2.2.2.2
  have hpl:pre.length≤24:=by rw[hpe];exact Nat.le_trans (b0c _ _) (by omega)
  have HAN:Hid ((entsAt ss pre).any (fun y=>(entAt ss (k:Int)).target == y.target)=pp k):=ι (by
   rw[HLA.out k huk,← hpe,entsAt,List.any_map]
   congr 1
   funext j
   show _=sameL ss k j
   rw[d1s]
   rw[Function.comp,BEq.comm (a:=(entAt ss (k:Int)).target)])
  have HCT:=ι (ccontL V ba Bx (entAt ss (k:Int)) (entsAt ss pre) q n c (HBA.out V hI.2.2.1) hX hL.own.rd (by rw[hL.len];omega))
  have HNL:Hid (n≤24):=ι (by rw[hL.len];exact hpl)
  have HI2:=ι hI
  have HL:=ι hL
  have HIL:=ι fun V' (hb:Below V.heap.size V V')=>(show J (pre.filter pp) V'∧Go.Boxed V' W.heap.size 131 (.func (.yield l) #[] #[])∧Keep w0 lo V1 V'∧W.heap.size≤V'.heap.size∧LowAt (W.heap.size+1) ss pre q n c V' from⟨HJ.out _ _ _ hI.1 (CalmS.of_below hb),(rng.Calm.of_below (B:=0) hb).boxed hI.2.1,hI.2.2.1.later hb,Nat.le_trans hI.2.2.2.1 hb.size,hL.calm (rng.Calm.of_below (B:=0) hb)⟩)
  have HEX:Hid (∀x,entAt ss (k:Int)=x→∀(V6 V7:World) (o:Obj) (q':Option Addr) (n' c':Nat) (pa':Option Addr) (ca:Nat),LowAt (W.heap.size+1) ss pre q' n' c' V6→W.heap.size+1+2≤V6.heap.size→rows.Own V7 0 170 4 (.slice pa' (n'+1) ca) (n'+1) (entsC (entsAt ss pre)++entC x)→dsk.Touch (fun g=>(Value.slice q' n' c').ownBlock=some g) (V6.alloc o) V7→(∀g,(Value.slice pa' (n'+1) ca).ownBlock=some g→(Value.slice q' n' c').ownBlock=some g∨((V6.alloc o).heap.size≤g∧g<V7.heap.size))→LowAt (W.heap.size+1) ss (pre++[k]) pa' (n'+1) ca (V7.setCell ⟨W.heap.size+1,0,none⟩ (.slice pa' (n'+1) ca))∧dsk.Touch (fun g=>(Value.slice q' n' c').ownBlock=some g∨g=W.heap.size+1) V6 (V7.setCell ⟨W.heap.size+1,0,none⟩ (.slice pa' (n'+1) ca))):=ι fun x hx V6 V7 o q' n' c' pa' ca h1 h2 h3 h4 h5=>by subst hx;exact c1y h1 h2 h3 h4 h5
  have HEX3:Hid (∀x,entAt ss (k:Int)=x→∀(Lp:List Nat) (V6 V7:World) (o:Obj) (q':Option Addr) (n' c':Nat) (pa':Option Addr) (ca:Nat),(J Lp V6∧Go.Boxed V6 W.heap.size 131 (.func (.yield l) #[] #[])∧Keep w0 lo V1 V6∧W.heap.size≤V6.heap.size∧LowAt (W.heap.size+1) ss pre q' n' c' V6)→V.heap.size≤V6.heap.size→rows.Own V7 0 170 4 (.slice pa' (n'+1) ca) (n'+1) (entsC (entsAt ss pre)++entC x)→dsk.Touch (fun g=>(Value.slice q' n' c').ownBlock=some g) (V6.alloc o) V7→(∀g,(Value.slice pa' (n'+1) ca).ownBlock=some g→(Value.slice q' n' c').ownBlock=some g∨((V6.alloc o).heap.size≤g∧g<V7.heap.size)) →
    (J Lp (V7.setCell ⟨W.heap.size+1,0,none⟩ (.slice pa' (n'+1) ca))∧Go.Boxed (V7.setCell ⟨W.heap.size+1,0,none⟩ (.slice pa' (n'+1) ca)) W.heap.size 131 (.func (.yield l) #[] #[])∧Keep w0 lo V1 (V7.setCell ⟨W.heap.size+1,0,none⟩ (.slice pa' (n'+1) ca))∧W.heap.size≤(V7.setCell ⟨W.heap.size+1,0,none⟩ (.slice pa' (n'+1) ca)).heap.size∧∃q n c,LowAt (W.heap.size+1) ss (pre++[k]) q n c (V7.setCell ⟨W.heap.size+1,0,none⟩ (.slice pa' (n'+1) ca)))∧Turn (fun b o=>m b o∨(b=W.heap.size+1∨(W2.heap.size≤b∧∃cs,o = .cells cs 170 (0,0)))) V6 (V7.setCell ⟨W.heap.size+1,0,none⟩ (.slice pa' (n'+1) ca))):=ι fun x hx Lp V6 V7 o q' n' c' pa' ca h1 h2 h3 h4 h5=>by
   have hz:=HSZ.out
   have h0:=HS0.out
   have h01:=HV1.out
   obtain⟨hl4,ht4⟩:=HEX.out x hx V6 V7 o q' n' c' pa' ca h1.2.2.2.2 (by omega) h3 h4 h5
   obtain⟨hc5,ht5⟩:=h1.2.2.2.2.touch ht4
   refine⟨⟨HJ.out _ _ _ h1.1 (hc5 _ (by omega)),ht5.keep _ _ h1.2.1 (fun hz=>by omega),h1.2.2.1.turn ht5 (fun b o hz=>by omega) (fun b o hz=>Or.inr (Or.inr (by omega))),Nat.le_trans h1.2.2.2.1 ht5.size,_,_,_,hl4⟩,ht5.mono fun b o hb=>Or.inr (hb.imp id fun h=>⟨by omega,h.2⟩)⟩
  have cl:=hL.box.cell
  have cy:=hI.2.1.cell
  have hbx:Bx<V.heap.size:=(Array.getElem?_eq_some_iff.1 hX).1
  rw[HAN.out] at HCT
  have HX:=ι hX
  clear hI hsp huk hpk hpe hL hpl
  obtain⟨x,hx⟩:∃x,entAt ss (k:Int)=x:=⟨_,rfl⟩
  have HEX2:=ι (HEX3.out x hx)
  rw[hx] at HX hX ⊢
  clear hx HEX HEX3 HAN
  obtain⟨u,pa,nm,tg⟩:=x
  have x0:V.cell? ⟨Bx,0,none⟩=some (.bool u):=hX.cell0
  have x1:V.cell? ⟨Bx,1,none⟩=some (.int .i64 pa):=hX.cell1
  have x2:V.cell? ⟨Bx,2,none⟩=some (.string nm):=hX.cell2
  have x3:V.cell? ⟨Bx,3,none⟩=some (.int .i64 tg):=hX.cell3
  clear hX
  cases hb:pp k with
  | false =>
   rw[hb] at HCT
   have HN:=ι (HFN.out hb)
   clear hb HYk
   gi_wp2_with (first|(refine⟨trivial,?_⟩;gi_at_call 199;refine(a2h HCT.out).mono ?_;rintro e w3 ⟨rfl,hb3⟩;have HB3:=ι hb3;have cl3:w3.cell? ⟨W.heap.size+1,0,none⟩=some (.slice q n c):=((rng.Calm.of_below (B:=0) hb3).boxed HL.out.box).cell;have e0:=(hb3.cell (p:=⟨Bx,0,none⟩) hbx).trans x0;have e1:=(hb3.cell (p:=⟨Bx,1,none⟩) hbx).trans x1;have e2:=(hb3.cell (p:=⟨Bx,2,none⟩) hbx).trans x2;have e3:=(hb3.cell (p:=⟨Bx,3,none⟩) hbx).trans x3;clear hb3)|(refine a2b rfl ?_;refine a0g a1d (by decide) rfl (.tmp 23) rfl (entC ⟨u,pa,nm,tg⟩) rfl rfl ?_;refine a1f ?_)|(gi_at_builtin;refine a2b rfl ?_;refine a3c a1d rfl (.tmp 22) (.tmp 24) rfl _ n _ rfl (((HIL.out w3 HB3.out).2.2.2.2).own.alloc _) _ 1 (entC ⟨u,pa,nm,tg⟩) rfl (a0p _ _ _ _ rfl) (fun v hv=>by simp[entC] at hv;rcases hv with rfl|rfl|rfl|rfl<;>rfl) (by have:=HNL.out;omega) ?_;intro pa' ca wa hoa hta hla;have hB8:=a0v (((HIL.out w3 HB3.out).2.2.2.2).box.alloc (.cells (entC ⟨u,pa,nm,tg⟩).toArray 170)) hta (fun e=>by have:=HL.out.low _ e;omega);have c8a:=hB8.cell;have f8a:=hB8.frozen;have HOA:=ι hoa;have HTA:=ι hta;have HLA2:=ι hla;clear hoa hta hla hB8;refine a1f ?_))
   refine⟨fun _ h=>(by cases h),?_⟩
   gi_wp2_with (first|(refine a2b rfl ?_;refine a0g a1d (by decide) rfl (.tmp 23) rfl (entC ⟨u,pa,nm,tg⟩) rfl rfl ?_;refine a1f ?_)|(gi_at_builtin;refine a2b rfl ?_;refine a3c a1d rfl (.tmp 22) (.tmp 24) rfl _ n _ rfl (((HIL.out w3 HB3.out).2.2.2.2).own.alloc _) _ 1 (entC ⟨u,pa,nm,tg⟩) rfl (a0p _ _ _ _ rfl) (fun v hv=>by simp[entC] at hv;rcases hv with rfl|rfl|rfl|rfl<;>rfl) (by have:=HNL.out;omega) ?_;intro pa' ca wa hoa hta hla;have hB8:=a0v (((HIL.out w3 HB3.out).2.2.2.2).box.alloc (.cells (entC ⟨u,pa,nm,tg⟩).toArray 170)) hta (fun e=>by have:=HL.out.low _ e;omega);have c8a:=hB8.cell;have f8a:=hB8.frozen;have HOA:=ι hoa;have HTA:=ι hta;have HLA2:=ι hla;clear hoa hta hla hB8;refine a1f ?_))
   have h3:=HIL.out _ HB3.out
   obtain⟨r1,r2⟩:=HEX2.out _ _ _ _ _ _ _ _ _ h3 HB3.out.size HOA.out HTA.out HLA2.out
   exact⟨⟨by rw[HN.out];exact r1.1,r1.2⟩,(Turn.of_below HB3.out).trans r2⟩
  | true =>
   rw[hb] at HCT
   have HYY:=ι (HFY.out hb)
   have HYw:=ι fun w3 (hb3:Below V.heap.size V w3)=>a2d 8 (HYk.out w3 (HIL.out w3 hb3).1 (HIL.out w3 hb3).2.2.2.1 (HPK.out hb))
   clear hb
   gi_wp2_with (first|(refine⟨trivial,?_⟩;gi_at_call 199;refine(a2h HCT.out).mono ?_;rintro e w3 ⟨rfl,hb3⟩;have HB3:=ι hb3;have cl3:w3.cell? ⟨W.heap.size+1,0,none⟩=some (.slice q n c):=((rng.Calm.of_below (B:=0) hb3).boxed HL.out.box).cell;have e0:=(hb3.cell (p:=⟨Bx,0,none⟩) hbx).trans x0;have e1:=(hb3.cell (p:=⟨Bx,1,none⟩) hbx).trans x1;have e2:=(hb3.cell (p:=⟨Bx,2,none⟩) hbx).trans x2;have e3:=(hb3.cell (p:=⟨Bx,3,none⟩) hbx).trans x3;have HYQ:=HYw.out w3 hb3;obtain⟨fn,tmps,assign,body,hy,hR⟩:=HYQ;have ey:=(HIL.out w3 hb3).2.1.cell;clear hb3)|(refine a2b rfl ?_;refine a0g a1d (by decide) rfl (.tmp 23) rfl (entC ⟨u,pa,nm,tg⟩) rfl rfl ?_;refine a1f ?_)|(gi_at_builtin;refine a2b rfl ?_;refine a3c a1d rfl (.tmp 22) (.tmp 24) rfl _ n _ rfl (((HIL.out w3 HB3.out).2.2.2.2).own.alloc _) _ 1 (entC ⟨u,pa,nm,tg⟩) rfl (a0p _ _ _ _ rfl) (fun v hv=>by simp[entC] at hv;rcases hv with rfl|rfl|rfl|rfl<;>rfl) (by have:=HNL.out;omega) ?_;intro pa' ca wa hoa hta hla;have hB8:=a0v (((HIL.out w3 HB3.out).2.2.2.2).box.alloc (.cells (entC ⟨u,pa,nm,tg⟩).toArray 170)) hta (fun e=>by have:=HL.out.low _ e;omega);have c8a:=hB8.cell;have f8a:=hB8.frozen;have HOA:=ι hoa;have HTA:=ι hta;have HLA2:=ι hla;clear hoa hta hla hB8;refine a1f ?_))
   refine RoundIn.mono (F:=Fence.wide.inRound l2) hR ?_
   rintro e W4 (⟨rfl,hJ4,hT4⟩|⟨rfl,hJx4,hT4⟩)
   ·have HJ4:=ι hJ4
    have HT4:=ι hT4
    have hX4:AtE W4 Bx ⟨u,pa,nm,tg⟩:=hT4.keep _ _ (HX.out.later HB3.out) (fun hz=>by
     have:=HSZ.out
     rcases HZW.out _ _ hz with hh|hh
     ·omega
     ·exact a0s (by decide) hh)
    have h3:=HIL.out _ HB3.out
    have HL4:Hid (LowAt (W.heap.size+1) ss pre q n c W4):=ι (h3.2.2.2.2.turn hT4 fun g o hz=>(HZW.out g o hz).imp (fun h=>by omega) id)
    have H34:Hid (J (pre.filter pp++[k]) W4∧Go.Boxed W4 W.heap.size 131 (.func (.yield l) #[] #[])∧Keep w0 lo V1 W4∧W.heap.size≤W4.heap.size∧LowAt (W.heap.size+1) ss pre q n c W4):=ι ⟨hJ4,hT4.keep _ _ h3.2.1 (fun hz=>by
      rcases HZW.out _ _ hz with hh|hh
      ·omega
      ·exact a0s (by decide) hh),h3.2.2.1.turn hT4 (fun b o hz=>H1.out b o hz) (fun b o hz=>H2.out b o hz),Nat.le_trans h3.2.2.2.1 hT4.size,HL4.out⟩
    have x0:W4.cell? ⟨Bx,0,none⟩=some (.bool u):=hX4.cell0
    have x1:W4.cell? ⟨Bx,1,none⟩=some (.int .i64 pa):=hX4.cell1
    have x2:W4.cell? ⟨Bx,2,none⟩=some (.string nm):=hX4.cell2
    have x3:W4.cell? ⟨Bx,3,none⟩=some (.int .i64 tg):=hX4.cell3
    have cl4:W4.cell? ⟨W.heap.size+1,0,none⟩=some (.slice q n c):=HL4.out.box.cell
    clear hy hR hJ4 hT4 hX4 h3
    gi_wp2_with (first|(refine a2b rfl ?_;refine a0g a1d (by decide) rfl (.tmp 23) rfl (entC ⟨u,pa,nm,tg⟩) rfl rfl ?_;refine a1f ?_)|(gi_at_builtin;refine a2b rfl ?_;refine a3c a1d rfl (.tmp 22) (.tmp 24) rfl _ n _ rfl (HL4.out.own.alloc _) _ 1 (entC ⟨u,pa,nm,tg⟩) rfl (a0p _ _ _ _ rfl) (fun v hv=>by simp[entC] at hv;rcases hv with rfl|rfl|rfl|rfl<;>rfl) (by have:=HNL.out;omega) ?_;intro pa' ca wa hoa hta hla;have hB8:=a0v (HL4.out.box.alloc (.cells (entC ⟨u,pa,nm,tg⟩).toArray 170)) hta (fun e=>by have:=HL4.out.low _ e;omega);have c8a:=hB8.cell;have f8a:=hB8.frozen;have HOA:=ι hoa;have HTA:=ι hta;have HLA2:=ι hla;clear hoa hta hla hB8;refine a1f ?_))
    obtain⟨r1,r2⟩:=HEX2.out _ _ _ _ _ _ _ _ _ H34.out (Nat.le_trans HB3.out.size HT4.out.size) HOA.out HTA.out HLA2.out
    exact⟨⟨by rw[HYY.out];exact r1.1,r1.2⟩,((Turn.of_below HB3.out).trans (HT4.out.mono fun j o hz=>Or.inl hz)).trans r2⟩
   ·have HJX4:=ι hJx4
    have HT4:=ι hT4
    clear hy hR hJx4 hT4
    gi_wp2
    exact⟨⟨rfl,by rw[HYY.out];exact HJX4.out⟩,(Turn.of_below HB3.out).trans (HT4.out.mono fun j o hz=>hz.imp (fun h=>by have:=HSZ.out;omega) Or.inl)⟩
 case done =>
  rintro D ys V hD rfl hI hK
  have HI2:=ι hI
  clear hI
  gi_wp2
  refine⟨by simp,.inl ⟨_,_,rfl,run_takeDeferred hK,?_⟩⟩
  refine⟨_,results_none rfl _ _ _,⟨_,rfl⟩,.inl ⟨_,rfl,?_⟩⟩
  have h:=HI2.out.1
  rw[HPD.out] at h
  exact HJ.out _ _ _ h (CalmS.of a0j (rng.Calm.putObj _ (by have:=HSZ.out;omega) hK rfl))
 case stop =>
  rintro D c pre V hD hp ⟨rfl,hx⟩ hK
  have HX:=ι hx
  clear hx
  gi_wp2
  refine⟨by simp,.inl ⟨_,_,rfl,run_takeDeferred hK,?_⟩⟩
  refine⟨_,results_none rfl _ _ _,⟨_,rfl⟩,.inr ⟨_,?_,HJX.out _ _ _ HX.out (CalmS.of a0j (rng.Calm.putObj _ (by have:=HSZ.out;omega) hK rfl))⟩⟩
  rw[← HPD.out]
  exact hp.filter _
end lk
end Go.Proofs.YtpnahagiojelbaaGreatDoor
