/- What CheckStays wants, part 40. -/
import Derived.Test.YtpnahagiojelbaaGreatDoorCheckStaysB
import Derived.Test.YtpnahagiojelbaaGreatDoorCheckStaysC
import Derived.Test.YtpnahagiojelbaaGreatDoorCheckStaysS
import Derived.Test.YtpnahagiojelbaaGreatDoorCheckStaysZL
import Derived.Test.YtpnahagiojelbaaGreatDoorCheckStaysZM
set_option linter.unusedVariables false
set_option linter.unusedSimpArgs false
namespace Go.Proofs.YtpnahagiojelbaaGreatDoor
namespace lk
set_option maxRecDepth 100000
open Go.ChangeShapes Go.WideShapes Go.ChangeAt Go.RowKit
open rows
open sec
open dsk (wf64 a0g a0p a3c)
open ly
open rng
open fs (a1b)
attribute [local go_sem] Oper.semAt_some
def softI(o:Obj):Prop:=∃cs fr,o = .cells cs 3 fr
theorem a7n(o:Obj)(h:softI o):o.isCells=true:=by
 obtain⟨cs,fr,rfl⟩:=h
 rfl
theorem c4e(l:List Int)(z:Int):i64s l++[.int .i64 z]=i64s (l++[z]):=by simp[i64s]
structure FAt (B:Nat) (G:Nat→Prop) (L:List Int) (q:Option Addr) (n c:Nat) (V:World):Prop where
 box:Go.Boxed V B 31 (.slice q n c)
 own:rows.Own V 0 3 1 (.slice q n c) n (i64s L)
 len:n=L.length
 low:∀k,(Value.slice q n c).ownBlock=some k→G k
theorem FAt.calm{B B0:Nat}{G:Nat→Prop}{L:List Int}{q:Option Addr}{n c:Nat}{a b:World}(h:FAt B G L q n c a)(k:rng.Calm B0 a b):FAt B G L q n c b:=⟨k.boxed h.box,a3x h.own k,h.len,h.low⟩
theorem FAt.later{B:Nat}{G:Nat→Prop}{L:List Int}{q:Option Addr}{n c:Nat}{a b:World}(h:FAt B G L q n c a)(k:Below a.heap.size a b):FAt B G L q n c b:=h.calm (rng.Calm.of_below (B:=0) k)
theorem FAt.mono{B:Nat}{G G':Nat→Prop}{L:List Int}{q:Option Addr}{n c:Nat}{a:World}(h:FAt B G L q n c a)(hG:∀k,k<a.heap.size→G k→G' k):FAt B G' L q n c a :=
 ⟨h.box,h.own,h.len,fun k hk=>by
  obtain⟨cur,hc⟩:=a8z h.own hk
  exact hG k (Array.getElem?_eq_some_iff.1 hc).1 (h.low k hk)⟩
theorem more_I{B:Nat}{G:Nat→Prop}{L:List Int}{q:Option Addr}{n c:Nat}{V wa:World}{o:Obj}{pa:Option Addr}{ca:Nat}{x:Int}(h:FAt B G L q n c V)(hGB:∀k,G k→k≠B)(hGV:∀k,V.heap.size≤k→G k)
  (hoa:rows.Own wa 0 3 1 (.slice pa (n+1) ca) (n+1) (i64s L++[.int .i64 x])) (hta:dsk.Touch (fun g=>(Value.slice q n c).ownBlock=some g) (V.alloc o) wa)
  (hla:∀g,(Value.slice pa (n+1) ca).ownBlock=some g→(Value.slice q n c).ownBlock=some g∨((V.alloc o).heap.size≤g∧g<wa.heap.size)) :
  FAt B G (L++[x]) pa (n+1) ca (wa.setCell ⟨B,0,none⟩ (.slice pa (n+1) ca))∧Turn (fun b o=>b=B∨(G b∧∃cs,o = .cells cs 3 (0,0))) V (wa.setCell ⟨B,0,none⟩ (.slice pa (n+1) ca)):=by
 have hlow:∀g,(Value.slice pa (n+1) ca).ownBlock=some g→G g:=fun g hg=>by
  rcases hla g hg with h1|h1
  ·exact h.low g h1
  ·have:=h1.1
   rw[World.size_alloc] at this
   exact hGV g (by omega)
 have hb8:=a0v (h.box.alloc o) hta (fun e=>hGB _ (h.low _ e) rfl)
 have ht4:dsk.Touch (fun g=>(Value.slice q n c).ownBlock=some g∨g=B) V (wa.setCell ⟨B,0,none⟩ (.slice pa (n+1) ca)):=dsk.Touch.setCell (S:=fun g=>(Value.slice q n c).ownBlock=some g∨g=B) (((dsk.Touch.alloc (dsk.Touch.refl _ V) _).trans hta).mono (fun i hi=>Or.inl hi)) ⟨B,0,none⟩ (Or.inr rfl) _
 refine⟨⟨hb8.set _,?_,by rw[List.length_append,← h.len];rfl,hlow⟩,Turn.of_touch' ht4 fun k o hko hk => ?_⟩
 ·rw[← c4e]
  exact dsk.a0o (S:=G) hoa hlow (dsk.Keeps.set (fun g hg=>hGB g hg) _)
 ·rcases hk with hk|rfl
  ·obtain⟨cur,hc⟩:=a8z h.own hk
   rw[hko] at hc
   exact Or.inr ⟨h.low k hk,cur,Option.some.inj hc⟩
  ·exact Or.inl rfl
set_option maxRecDepth 100000 in
set_option maxHeartbeats 4000000 in
theorem b1o(p:Option Addr)(ss:List (List Int))(w:World)(hd:Dk w (.pointer p) ss) :
  Calls Tryz.prog 65 #[.pointer p] w fun e w'=>∃q n c,e = .returned (.slice q n c)∧Below w.heap.size w w'∧rows.Own w' 0 3 1 (.slice q n c) n (i64s (reachI ss))∧(∀k,(Value.slice q n c).ownBlock=some k→w.heap.size≤k):=by
 have HD:=ι hd
 clear hd
 refine(callsIn_wide (n:=10)).1 (callsIn_of_wp_marks Tryz.func65 rfl trivial ?_ rfl)
 simp only[Tryz.ntmps65,List.size_toArray,List.length_cons,List.length_nil,Nat.reduceAdd,Nat.reduceSub,Array.replicate_succ,Array.replicate_zero,List.push_toArray,List.append_toArray,List.nil_append,List.cons_append]
 have hb1:=a0a (a0a (a0a (Below.refl w.heap.size w) (.cells #[.pointer p] 45)) (.cells #[.int .i64 0] 3)) (.cells #[.slice (some ⟨w.heap.size+1,0,none⟩) 1 1] 31)
 have hd1:=((Go.Boxed.new w 45 (.pointer p)).alloc (.cells #[.int .i64 0] 3)).alloc (.cells #[.slice (some ⟨w.heap.size+1,0,none⟩) 1 1] 31)
 have hl1:=Go.Boxed.new ((w.alloc (.cells #[.pointer p] 45)).alloc (.cells #[.int .i64 0] 3)) 31 (.slice (some ⟨w.heap.size+1,0,none⟩) 1 1)
 have hr1:((w.alloc (.cells #[.pointer p] 45)).alloc (.cells #[.int .i64 0] 3)).heap[w.heap.size+1]? = some (.cells #[.int .i64 0] 3 (0,0)):=by
  have h:=heap_alloc_new (w.alloc (.cells #[.pointer p] 45)) (.cells #[.int .i64 0] 3)
  rw[World.size_alloc] at h
  exact h
 simp only[World.size_alloc] at hl1
 have hr2:=(a0a (Below.refl _ ((w.alloc (.cells #[.pointer p] 45)).alloc (.cells #[.int .i64 0] 3))) (.cells #[.slice (some ⟨w.heap.size+1,0,none⟩) 1 1] 31)).block _ (Array.getElem?_eq_some_iff.1 hr1).1 |>.trans hr1
 obtain⟨W2,hW2⟩:∃W2,((w.alloc (.cells #[.pointer p] 45)).alloc (.cells #[.int .i64 0] 3)).alloc (.cells #[.slice (some ⟨w.heap.size+1,0,none⟩) 1 1] 31)=W2:=⟨_,rfl⟩
 rw[hW2] at hb1 hd1 hl1 hr2
 have HF2:Hid (FAt (w.heap.size+1+1) (fun k=>w.heap.size<k∧k≠w.heap.size+1+1) [0] (some ⟨w.heap.size+1,0,none⟩) 1 1 W2):=ι ⟨hl1,⟨rfl,Or.inr ⟨_,1,_,rfl,Nat.zero_le _,hr2,by decide,by decide,rfl,rfl⟩⟩,rfl,fun k hk=>by
  obtain rfl:w.heap.size+1=k:=by simpa [Value.ownBlock] using hk
  omega⟩
 have HB2:=ι hb1
 have HD2:=ι hd1
 clear hb1 hd1 hl1 hr1 hr2
 gi_wp2_with (refine c2p ?_;refine a0g a8c (by decide) rfl (.tmp 8) rfl [.int .i64 0] rfl rfl ?_;refine a1f ?_)
 try rw[hW2]
 clear hW2
 refine wpIn_loop (fun a' V=>∃(i:Nat) (Ds:List Nat) (L:List Int) (q:Option Addr) (n c:Nat) (u5 u7 u9 u10 u11 u12 u13 u14 u15 u16 u17 u18 u19 u20 u21 u22 u23 u24 u25 u26 u27 u28 u29 u30 u31 u32 u33 u34 u35 u36 u37 u38 u39 u40 u41 u42 u43 u44 u45 u46 u47 u48 u49:Value),(Fnd ss L∧OutU ss L i∧i≤n∧FAt (w.heap.size+1+1) (fun k=>w.heap.size<k∧k≠w.heap.size+1+1) L q n c V∧Below w.heap.size w V∧Go.Boxed V w.heap.size 45 (.pointer p)∧Marks w.heap.size V.heap.size Ds V)∧a'={ tmps := #[.pointer p,.pointer (some ⟨w.heap.size,0,none⟩),.slice none 0 0,.pointer (some ⟨w.heap.size+1+1,0,none⟩),.int .i64 (i:Int),u5,undef,u7,.slice (some ⟨w.heap.size+1,0,none⟩) 1 1,u9,u10,u11,u12,u13,u14,u15,u16,u17,u18,u19,u20,u21,u22,u23,u24,u25,u26,u27,u28,u29,u30,u31,u32,u33,u34,u35,u36,u37,u38,u39,u40,u41,u42,u43,u44,u45,u46,u47,u48,u49,undef,undef,undef],defers:=marksD Ds }) (fun a' _=>20-(intOf (a'.tmps.getD 4 undef)).toNat) ?_ ?_
 ·exact⟨0,[],[0],_,1,1,undef,undef,undef,undef,undef,undef,undef,undef,undef,undef,undef,undef,undef,undef,undef,undef,undef,undef,undef,undef,undef,undef,undef,undef,undef,undef,undef,undef,undef,undef,undef,undef,undef,undef,undef,undef,undef,undef,undef,undef,undef,undef,undef,⟨Fnd.one ss,fun j hj=>absurd hj (Nat.not_lt_zero j),by omega,HF2.out,HB2.out,HD2.out,List.nodup_nil,fun D hD=>by cases hD⟩,rfl⟩
 clear HF2 HB2 HD2
 rintro _ wr ⟨i,Ds,L,q,n,c,u5,u7,u9,u10,u11,u12,u13,u14,u15,u16,u17,u18,u19,u20,u21,u22,u23,u24,u25,u26,u27,u28,u29,u30,u31,u32,u33,u34,u35,u36,u37,u38,u39,u40,u41,u42,u43,u44,u45,u46,u47,u48,u49,hR,rfl⟩
 have HR:=ι hR
 have hin:=hR.2.2.1
 have hnl:n=L.length:=hR.2.2.2.1.len
 have hn16:n≤16:=by rw[hnl];exact hR.1.len
 have HNL:=ι hnl
 have cf:=hR.2.2.2.1.box.cell
 have cd:=hR.2.2.2.2.2.1.cell
 clear hR hnl
 by_cases hlt:i<n
 ·have hlti:(i:Int)<n:=by omega
  have hrt:=Rd.at HR.out.2.2.2.1.own.rd hlt
  obtain⟨b,off,hq,_,_,_,_,hcell⟩:=hrt
  have hck:=hcell i hlt
  clear hcell
  have hzm:L.getD i 0∈L:=by
   rw[List.getD,List.getElem?_eq_getElem (by have:=HNL.out;omega)]
   exact List.getElem_mem _
  have HZM:=ι hzm
  have hzr:=b5d (HR.out.1.all _ hzm)
  have HKD:=ι fun z (hz:wf64 z) V (hb:Below w.heap.size w V)=>b0q V (.pointer p) ss z (HD.out.later hb) hz
  have HSK:Hid (kindAt ss (L.getD i 0)≠2→OutU ss L (i+1)):=ι fun h=>HR.out.2.1.skip h
  have HGZ:Hid (L.getD i 0=L.getD i 0):=ι rfl
  generalize hzz:L.getD i 0=z at hck hzr HSK
  have HWF:=ι (a0f (z:=z) (by omega))
  have hcw:wr.heap.size<(wr.alloc (.cells #[.int .i64 z] 3)).heap.size:=by simp
  have B1:Hid (Below wr.heap.size wr (wr.alloc (.cells #[.int .i64 z] 3))):=ι (a0a (Below.refl _ _) _)
  have HKZ:=ι (HKD.out z HWF.out (wr.alloc (.cells #[.int .i64 z] 3)) (HR.out.2.2.2.2.1.trans (B1.out.mono HR.out.2.2.2.2.1.size)))
  have cd1:(wr.alloc (.cells #[.int .i64 z] 3)).cell? ⟨w.heap.size,0,none⟩=some (.pointer p):=(HR.out.2.2.2.2.2.1.alloc _).cell
  have CD2:=ι fun w2 (hb:Below wr.heap.size wr w2)=>((rng.Calm.of_below (B:=0) hb).boxed HR.out.2.2.2.2.2.1)
  have CZ2:=ι fun w2 (hb:Below (wr.alloc (.cells #[.int .i64 z] 3)).heap.size (wr.alloc (.cells #[.int .i64 z] 3)) w2)=>((rng.Calm.of_below (B:=0) hb).boxed (Go.Boxed.new wr 3 (.int .i64 z)))
  subst hq
  by_cases hk2:kindAt ss z=2
  ·have hkz:kindAt ss z=2:=hk2
   rw[hk2] at HKZ
   clear HSK
   gi_wp2_with (first|(refine⟨trivial,?_⟩;gi_at_call 104;refine(callsIn_wide.2 HKZ.out).mono ?_;rintro e w2 ⟨rfl,hb2⟩;have B2:=ι (a0b B1.out hb2);have X2:=ι (CZ2.out w2 hb2);have cd2:=(CD2.out w2 B2.out).cell;clear hb2)|(refine⟨trivial,?_⟩;gi_at_call 105;refine(callsIn_wide.2 (a4v _ _)).mono ?_;rintro e w3' ⟨rfl,rfl⟩))
   have hb3:=a0a (Below.refl _ w2) (.cells #[.pointer p] 45)
   have hd3:=Go.Boxed.new w2 45 (.pointer p)
   have hsz3:(w2.alloc (.cells #[.pointer p] 45)).heap.size=w2.heap.size+1:=by simp
   generalize hw3:w2.alloc (.cells #[.pointer p] 45)=w3 at *
   have B3:=ι (a0b B2.out hb3)
   have HD3:=ι hd3
   have HSZ3:=ι hsz3
   have hwr:=HR.out.2.2.2.2.1.size
   have hwr3:wr.heap.size<w2.heap.size:=X2.out.lt
   have HWR:=ι hwr
   have HWR2:=ι hwr3
   have HBX:Hid (w.heap.size+1+1<wr.heap.size):=ι HR.out.2.2.2.1.box.lt
   have HW3:Hid (w.heap.size≤w3.heap.size):=ι (by omega)
   have HI3:Hid (∃L q n c,Fnd ss L∧OutU ss L i∧i<n∧L.getD i 0=z∧OutN ss L z []∧FAt (w.heap.size+1+1) (fun k=>w.heap.size<k∧k≠w.heap.size+1+1∧k≠wr.heap.size) L q n c w3∧Below w.heap.size w w3∧Go.Boxed w3 w.heap.size 45 (.pointer p)∧Marks w.heap.size w3.heap.size Ds w3∧Go.Boxed w3 wr.heap.size 3 (.int .i64 z)):=ι ⟨L,_,n,c,HR.out.1,HR.out.2.1,hlt,hzz,OutN.nil _ _ _,(HR.out.2.2.2.1.mono fun k hk hg=>⟨hg.1,hg.2,by omega⟩).later B3.out,HR.out.2.2.2.2.1.trans (B3.out.mono hwr),(rng.Calm.of_below (B:=0) B3.out).boxed HR.out.2.2.2.2.2.1,by
    have hm:=HR.out.2.2.2.2.2.2.later B3.out
    exact⟨hm.nd,fun D hD=>⟨(hm.at_ D hD).1,by have:=(hm.at_ D hD).2.1;omega,(hm.at_ D hD).2.2⟩⟩,(rng.Calm.of_below (B:=0) hb3).boxed X2.out⟩
   have HI16:Hid ((i:Int)≤16):=ι (by omega)
   clear hw3 hb3 hd3 hsz3 hwr hwr3 HZM hck cf cd cd1 cd2 B1 CD2 CZ2 HKZ hzz HNL hn16 hcw HGZ
   refine a1w (gf:=150) (lb := #[.pointer (some ⟨w2.heap.size,0,none⟩)]) rfl (enters_of Tryz.func150 (by kernel_rfl) rfl)
    (m:=fun b o=>b=w.heap.size+1+1∨((w.heap.size<b∧b≠w.heap.size+1+1∧b≠wr.heap.size)∧∃cs,o = .cells cs 3 (0,0)))
    (a4m softI w (.pointer p) ss HD.out w2.heap.size (fun b o=>b=w3.heap.size+1∨(b=w.heap.size+1+1∨((w.heap.size<b∧b≠w.heap.size+1+1∧b≠wr.heap.size)∧∃cs,o = .cells cs 3 (0,0)))) w3 (HR.out.2.2.2.2.1.trans (B3.out.mono HWR.out)) HD3.out (fun b o hb=>by
     have h1:=HW3.out
     omega) (fun v hb=>by
     have h1:=HSZ3.out
     have h2:=HBX.out
     have h3:=HWR2.out
     rcases hb with hb|hb|⟨_,cs,hb⟩
     ·omega
     ·omega
     ·injection hb with _ h;exact absurd h (by decide))) (fun b o hb=>by
     have h1:=HSZ3.out
     have h2:=HBX.out
     have h3:=HWR2.out
     rcases hb with hb|⟨_,cs,hb⟩
     ·exact Or.inl (by omega)
     ·exact Or.inr ⟨cs,_,hb⟩) a7n (fun _=>rfl)
    (fun pre V=>∃L q n c,Fnd ss L∧OutU ss L i∧i<n∧L.getD i 0=z∧OutN ss L z pre∧FAt (w.heap.size+1+1) (fun k=>w.heap.size<k∧k≠w.heap.size+1+1∧k≠wr.heap.size) L q n c V∧Below w.heap.size w V∧Go.Boxed V w.heap.size 45 (.pointer p)∧Marks w.heap.size w3.heap.size Ds V∧Go.Boxed V wr.heap.size 3 (.int .i64 z))
    (fun c pre V=>False)
    (fun s A B h hc=>by
     obtain⟨L,q,n,c,h1,h2,h3,h4,h5,h6,h7,h8,h9,h10⟩:=h
     exact⟨L,q,n,c,h1,h2,h3,h4,h5,h6.calm hc,h7.trans (hc.below HW3.out h7.size),hc.boxed h8,h9.calmS (CalmS.of (soft:=softI) a7n hc) (Nat.le_refl _),hc.boxed h10⟩)
    (fun c s A B h hc=>h)
    HI3.out
    (fun pre k a' V=>(∃L q n c,Fnd ss L∧OutU ss L i∧i<n∧L.getD i 0=z∧OutN ss L z pre∧FAt (w.heap.size+1+1) (fun k=>w.heap.size<k∧k≠w.heap.size+1+1∧k≠wr.heap.size) L q n c V∧Below w.heap.size w V∧Go.Boxed V w.heap.size 45 (.pointer p)∧Marks w.heap.size w3.heap.size Ds V∧Go.Boxed V wr.heap.size 3 (.int .i64 z))∧∃Bx,AtE V Bx (entAt ss (k:Int))∧a'={ tmps := #[.pointer p,.pointer (some ⟨w.heap.size,0,none⟩),.slice none 0 0,.pointer (some ⟨w.heap.size+1+1,0,none⟩),.int .i64 (i:Int),.pointer (some ⟨wr.heap.size,0,none⟩),undef,.pointer (some ⟨Bx,0,none⟩),.slice (some ⟨w.heap.size+1,0,none⟩) 1 1,.int .i64 (i:Int),.slice (some ⟨b,off,none⟩) n c,.int .i64 (n:Int),.bool true,u13,u14,.slice (some ⟨b,off,none⟩) n c,.int .i64 (i:Int),.pointer (some ⟨b,off+i,none⟩),.int .i64 z,.pointer p,.int .i64 z,.int .i64 2,.bool false,.pointer p,.func (.func 150) #[] #[.pointer (some ⟨w2.heap.size,0,none⟩)],.int .i64 (k:Int),aggE (entAt ss (k:Int)),u27,u28,u29,u30,u31,u32,u33,u34,u35,u36,u37,u38,u39,u40,u41,u42,u43,u44,u45,u46,u47,u48,u49,undef,undef,undef],defers:=[] })
    (fun s k a' A B h hc=>by
     obtain⟨⟨L,q,n,c,h1,h2,h3,h4,h5,h6,h7,h8,h9,h10⟩,Bx,hX,h11⟩:=h
     exact⟨⟨L,q,n,c,h1,h2,h3,h4,h5,h6.calm hc,h7.trans (hc.below HW3.out h7.size),hc.boxed h8,h9.calmS (CalmS.of (soft:=softI) a7n hc) (Nat.le_refl _),hc.boxed h10⟩,Bx,hc.block _ _ hX (Or.inr rfl),h11⟩)
    ?assign ?body ?done ?stop
   case assign =>
    rintro l2 pre k V hI hsz _
    generalize entAt ss (k:Int)=x
    obtain⟨u,pa,nm,tg⟩:=x
    have HI2:=ι hI
    clear hI
    gi_wp2
    obtain⟨L2,q2,n2,c2,h1,h2,h3,h4,h5,h6,h7,h8,h9,h10⟩:=HI2.out
    have hb:=a0a (Below.refl V.heap.size V) (.cells #[.bool u,.int .i64 pa,.string nm,.int .i64 tg] 170)
    exact⟨⟨⟨L2,q2,n2,c2,h1,h2,h3,h4,h5,h6.later hb,h7.trans (hb.mono h7.size),h8.alloc _,h9.later hb,h10.alloc _⟩,V.heap.size,a2t V ⟨u,pa,nm,tg⟩,rfl⟩,Turn.of_below hb⟩
   case body =>
    rintro l2 pre k a' V ⟨⟨L2,q2,n2,c2,h1,h2,h3,h4,h5,h6,h7,h8,h9,h10⟩,Bx,hX,rfl⟩ hsz hsp
    have huk:(entAt ss (k:Int)).used=true:=by
     have:=hsp.subset (List.mem_append_right _ (List.mem_singleton.2 rfl))
     exact(those_mem.1 this).2
    have hk24:k<24:=by
     have:=hsp.subset (List.mem_append_right _ (List.mem_singleton.2 rfl))
     exact(those_mem.1 this).1
    have heu:=a1b huk
    have hlk:linkB ss k=(decide (kindAt ss (entAt ss (k:Int)).parent=2) && !decide (kindAt ss (entAt ss (k:Int)).target=0)):=by rw[linkB,huk,Bool.true_and]
    have hzm:z∈L2:=by
     have hl2:=h6.len
     rw[← h4,List.getD,List.getElem?_eq_getElem (by omega)]
     exact List.getElem_mem _
    have HNo:Hid ((linkB ss k=true→(entAt ss (k:Int)).parent=z→(entAt ss (k:Int)).target∈L2)→OutN ss L2 z (pre++[k])):=ι fun h=>h5.same h
    have HYes:Hid ((entAt ss (k:Int)).parent=z→kindAt ss (entAt ss (k:Int)).target≠0→(entAt ss (k:Int)).target∉L2→Fnd ss (L2++[(entAt ss (k:Int)).target])∧OutN ss (L2++[(entAt ss (k:Int)).target]) z (pre++[k])):=ι fun hp ht hn=>by
     refine⟨h1.more hk24 ?_ (by rw[hp];exact hzm) hn,h5.grow.same fun _ _=>List.mem_append_right _ (List.mem_singleton.2 rfl)⟩
     rw[hlk,hp,hkz,decide_eq_false ht]
     rfl
    have HLK:=ι hlk
    have hL16:=h1.len
    have hlen:=h6.len
    have H:=ι (show _∧_∧_∧_∧_∧_∧_∧_∧_ from⟨h1,h2,h3,h4,h6,h7,h8,h9,h10⟩)
    have HKT:=ι fun V' (hb:Below V.heap.size V V')=>HKD.out (entAt ss (k:Int)).target (a0f (by omega)) V' (h7.trans (hb.mono h7.size))
    have HIL:=ι fun V' (hb:Below V.heap.size V V')=>(show FAt (w.heap.size+1+1) (fun k=>w.heap.size<k∧k≠w.heap.size+1+1∧k≠wr.heap.size) L2 q2 n2 c2 V'∧Below w.heap.size w V'∧Go.Boxed V' w.heap.size 45 (.pointer p)∧Marks w.heap.size w3.heap.size Ds V'∧Go.Boxed V' wr.heap.size 3 (.int .i64 z) from⟨h6.later hb,h7.trans (hb.mono h7.size),(rng.Calm.of_below (B:=0) hb).boxed h8,h9.later hb,(rng.Calm.of_below (B:=0) hb).boxed h10⟩)
    have HNLE:Hid (n2≤16):=ι (by omega)
    have cz:=h10.cell
    have cdV:=h8.cell
    have hbx:Bx<V.heap.size:=(Array.getElem?_eq_some_iff.1 hX).1
    clear h1 h2 h3 h4 h5 h6 h7 h8 h9 h10 hlk hzm hL16 hlen hsp huk heu
    generalize entAt ss (k:Int)=x at *
    obtain⟨u,pa,nm,tg⟩:=x
    simp only at HNo HYes HLK HKT
    have x0:V.cell? ⟨Bx,0,none⟩=some (.bool u):=hX.cell0
    have x1:V.cell? ⟨Bx,1,none⟩=some (.int .i64 pa):=hX.cell1
    have x2:V.cell? ⟨Bx,2,none⟩=some (.string nm):=hX.cell2
    have x3:V.cell? ⟨Bx,3,none⟩=some (.int .i64 tg):=hX.cell3
    clear hX
    by_cases hp:pa=z
    ·subst hp
     by_cases ht:kindAt ss tg=0
     ·have HN2:=ι (HNo.out fun h=>by rw[HLK.out,ht] at h;simp at h)
      rw[ht] at HKT
      clear HNo HYes HLK
      gi_wp2_with (refine⟨trivial,?_⟩;gi_at_call 104;refine(a2h (HKT.out V (Below.refl _ _))).mono ?_;rintro e w4 ⟨rfl,hb4⟩;have HB4:=ι hb4;clear hb4)
      repeat (refine⟨trivial,?_⟩;gi_wp2)
      have r:=HIL.out _ HB4.out
      have h:=H.out
      exact⟨⟨L2,q2,n2,c2,h.1,h.2.1,h.2.2.1,h.2.2.2.1,HN2.out,r⟩,Turn.of_below HB4.out⟩
     ·have ht2:¬kindAt ss tg=0:=ht
      have HYes2:=ι (HYes.out rfl ht)
      obtain⟨kt,hkt⟩:∃kt,kindAt ss tg=kt:=⟨_,rfl⟩
      rw[hkt] at HKT ht2
      clear ht hkt HYes
      have HCO:=ι fun w4 (hb4:Below V.heap.size V w4)=>a5t tg q2 n2 c2 L2 w4 ((HIL.out w4 hb4).1.own.rd) (by have:=HNLE.out;omega)
      cases hc:L2.contains tg with
      | true =>
       rw[hc] at HCO
       have HN2:=ι (HNo.out fun _ _=>List.contains_iff_mem.1 hc)
       clear HNo HYes2 HLK hc
       gi_wp2_with (first
        | (refine⟨trivial,?_⟩;gi_at_call 104;refine(a2h (HKT.out V (Below.refl _ _))).mono ?_;rintro e w4 ⟨rfl,hb4⟩;have HB4:=ι hb4;have cf4:=(HIL.out w4 hb4).1.box.cell;have x34:=(hb4.cell (p:=⟨Bx,3,none⟩) hbx).trans x3;clear hb4)
        | (refine⟨trivial,?_⟩;gi_at_call 106;refine(a2h (HCO.out w4 HB4.out)).mono ?_;rintro e w5 ⟨rfl,rfl⟩))
       have r:=HIL.out _ HB4.out
       have h:=H.out
       exact⟨⟨L2,q2,n2,c2,h.1,h.2.1,h.2.2.1,h.2.2.2.1,HN2.out,r⟩,Turn.of_below HB4.out⟩
      | false =>
       rw[hc] at HCO
       have HY2:=ι (HYes2.out fun hm=>by rw[List.contains_iff_mem.2 hm] at hc;cases hc)
       clear HNo HYes2 HLK hc
       gi_wp2_with (first
        | (refine⟨trivial,?_⟩;gi_at_call 104;refine(a2h (HKT.out V (Below.refl _ _))).mono ?_;rintro e w4 ⟨rfl,hb4⟩;have HB4:=ι hb4;have cf4:=(HIL.out w4 hb4).1.box.cell;have x34:=(hb4.cell (p:=⟨Bx,3,none⟩) hbx).trans x3;clear hb4)
        | (refine⟨trivial,?_⟩;gi_at_call 106;refine(a2h (HCO.out w4 HB4.out)).mono ?_;rintro e w5 ⟨rfl,rfl⟩)
        | (refine a2b rfl ?_;refine a0g a8c (by decide) rfl (.tmp 48) rfl [.int .i64 tg] rfl rfl ?_;refine a1f ?_)
        | (gi_at_builtin;refine a2b rfl ?_;refine a3c a8c rfl (.tmp 45) (.tmp 48) rfl _ n2 _ rfl ((HIL.out w4 HB4.out).1.own.alloc _) _ 1 [.int .i64 tg] rfl (a0p _ _ _ _ rfl) (fun v hv=>by rw[List.mem_singleton.1 hv];rfl) (by have:=HNLE.out;omega) ?_;intro pa' ca wa hoa hta hla;have hB8:=a0v ((HIL.out w4 HB4.out).1.box.alloc (.cells #[.int .i64 tg] 3)) hta (fun e=>((HIL.out w4 HB4.out).1.low _ e).2.1 rfl);have c8a:=hB8.cell;have f8a:=hB8.frozen;have HOA:=ι hoa;have HTA:=ι hta;have HLA2:=ι hla;clear hoa hta hla hB8;refine a1f ?_))
       have r4:=HIL.out _ HB4.out
       have h:=H.out
       have hw4:=HB4.out.size
       obtain⟨hf5,ht5⟩:=more_I r4.1 (fun k hk e=>hk.2.1 e) (fun k hk=>by
        have h1:=HW3.out
        have h2:=HBX.out
        have h3:=HWR2.out
        have h4:=HSZ3.out
        omega) HOA.out HTA.out HLA2.out
       have hc5:Below w.heap.size w4 _:=ht5.below (Nat.le_trans r4.2.1.size (Nat.le_refl _)) (fun k o hk=>by omega)
       refine⟨⟨L2++[tg],_,_,_,HY2.out.1,h.2.1.grow (by have:=r4.1.len;omega),by omega,?_,HY2.out.2,hf5,r4.2.1.trans hc5,ht5.keep _ _ r4.2.2.1 (fun hz=>by
        rcases hz with hz|⟨_,cs,hz⟩
        ·omega
        ·injection hz with _ hz;exact absurd hz (by decide)),⟨r4.2.2.2.1.nd,fun D hD=>⟨(r4.2.2.2.1.at_ D hD).1,(r4.2.2.2.1.at_ D hD).2.1,ht5.keep D _ (r4.2.2.2.1.at_ D hD).2.2 (fun hz=>by
        rcases hz with hz|⟨_,cs,hz⟩
        ·subst hz
         have hb4:w4.heap[w.heap.size+1+1]? = some (.cells #[.slice q2 n2 c2] 31 (0,0)):=r4.1.box
         rw[(r4.2.2.2.1.at_ _ hD).2.2] at hb4
         cases hb4
        ·cases hz)⟩⟩,ht5.keep _ _ r4.2.2.2.2 (fun hz=>by
        have h2:=HBX.out
        rcases hz with hz|⟨hz,_⟩
        ·omega
        ·exact hz.2.2 rfl)⟩,(Turn.of_below HB4.out).trans ht5⟩
       rw[← h.2.2.2.1,List.getD,List.getD,List.getElem?_append_left (by have:=r4.1.len;have:=h.2.2.1;omega)]
    ·have HN2:=ι (HNo.out fun _ h=>absurd h hp)
     clear HNo HYes HLK
     gi_wp2
     repeat (refine⟨trivial,?_⟩;gi_wp2)
     have r:=HIL.out _ (Below.refl _ _)
     have h:=H.out
     exact⟨⟨L2,q2,n2,c2,h.1,h.2.1,h.2.2.1,h.2.2.2.1,HN2.out,r⟩,Turn.refl _ _⟩
   case done =>
    rintro D ys V hD rfl hI hK
    have HI2:=ι hI
    have hi16:=HI16.out
    clear hI
    gi_wp2
    obtain⟨L2,q2,n2,c2,h1,h2,h3,h4,h5,h6,h7,h8,h9,h10⟩:=HI2.out
    have hDl:D<V.heap.size:=(Array.getElem?_eq_some_iff.1 hK).1
    refine⟨⟨i+1,D::Ds,L2,q2,n2,c2,_,_,_,_,_,_,_,_,_,_,_,_,_,_,_,_,_,_,_,_,_,_,_,_,_,_,_,_,_,_,_,_,_,_,_,_,_,_,_,_,_,_,_,⟨h1,h2.next (by rw[h4];exact h5),by omega,h6.mono fun k hk hg=>⟨hg.1,hg.2.1⟩,h7,h8,h9.more (by have:=HW3.out;omega) hD hDl hK⟩,rfl⟩,?_⟩
    simp[intOf]
    omega
   case stop =>
    rintro D c pre V hD hp h hK
    exact h.elim
  ·have HSK2:=ι (HSK.out hk2)
   have hk3:=hk2
   generalize kindAt ss z=kz at *
   gi_wp2_with (refine⟨trivial,?_⟩;gi_at_call 104;refine(callsIn_wide.2 HKZ.out).mono ?_;rintro e w2 ⟨rfl,hb2⟩;have B2:=ι (a0b B1.out hb2);have X2:=ι (CZ2.out w2 hb2);have cd2:=(CD2.out w2 B2.out).cell;clear hb2)
   have hwr:=HR.out.2.2.2.2.1.size
   refine⟨⟨i+1,Ds,L,_,n,c,_,_,_,_,_,_,_,_,_,_,_,_,_,_,_,_,_,_,_,_,_,_,_,_,_,_,_,_,_,_,_,_,_,_,_,_,_,_,_,_,_,_,_,⟨HR.out.1,HSK2.out,by omega,HR.out.2.2.2.1.later B2.out,HR.out.2.2.2.2.1.trans (B2.out.mono hwr),(rng.Calm.of_below (B:=0) B2.out).boxed HR.out.2.2.2.2.2.1,by
    have hm:=HR.out.2.2.2.2.2.2.later B2.out
    exact⟨hm.nd,fun D hD=>⟨(hm.at_ D hD).1,by have:=(hm.at_ D hD).2.1;have:=B2.out.size;omega,(hm.at_ D hD).2.2⟩⟩⟩,rfl⟩,?_⟩
   simp[intOf]
   omega
 ·have hnlt:(n:Int)≤i:=by omega
  have hil:i=n:=by omega
  subst hil
  have HS:=ι (csortI q i c 0 L wr (by omega) HR.out.2.2.2.1.own)
  have hso:=c3y HR.out.1 (by have h:=HR.out.2.1;rw[HNL.out] at h;exact h)
  rw[hso] at HS
  clear hso
  gi_wp2_with (refine⟨trivial,?_⟩;gi_at_call 107;refine(callsIn_wide.2 HS.out).mono ?_;rintro e w5 ⟨rfl,ho5,ht5⟩;have HO5:=ι ho5;have HT5:=ι ht5;have hb5:=a0v HR.out.2.2.2.1.box ht5 (fun e=>(HR.out.2.2.2.1.low _ e).2 rfl);have c5:=hb5.cell;clear ho5 ht5 hb5)
  refine a3e (B:=w.heap.size) (C:=wr.heap.size) Ds w5 ⟨HR.out.2.2.2.2.2.2.nd,fun D hD=>⟨(HR.out.2.2.2.2.2.2.at_ D hD).1,(HR.out.2.2.2.2.2.2.at_ D hD).2.1,?_⟩⟩ fun w' hc => ?_
  ·have h:=(HR.out.2.2.2.2.2.2.at_ D hD).2.2
   refine(HT5.out.block D (Array.getElem?_eq_some_iff.1 h).1 fun hz => ?_).trans h
   obtain⟨cur,hcu⟩:=a8z HR.out.2.2.2.1.own hz
   rw[h] at hcu
   cases hcu
  ·have hb5:=HR.out.2.2.2.2.1.trans (HT5.out.below HR.out.2.2.2.2.1.size fun k hk=>Nat.le_of_lt (HR.out.2.2.2.1.low k hk).1)
   exact⟨_,results_tmp rfl _ _ _,q,i,c,rfl,hb5.trans (hc.below (Nat.le_refl _) hb5.size),a3x HO5.out hc,fun k hk=>Nat.le_of_lt (HR.out.2.2.2.1.low k hk).1⟩
end lk
namespace lk
set_option maxRecDepth 100000
open Go.ChangeShapes Go.WideShapes Go.ChangeAt Go.RowKit
open rows
open sec
open ly
open rng
attribute [local go_sem] Oper.semAt_some
theorem Keep.own{w0:World}{lo:Nat}{V1 V:World}(h:Keep w0 lo V1 V){n:Nat}{v:Value}{cs:List Value}(ho:rows.Own V1 0 3 1 v n cs)(hl:∀k,v.ownBlock=some k→lo≤k):rows.Own V 0 3 1 v n cs:=by
 refine⟨ho.1,?_⟩
 rcases ho.2 with h2|⟨g,cap,cur,hv,h3,h4,h5⟩
 ·exact Or.inl h2
 ·exact Or.inr ⟨g,cap,cur,hv,h3,h.cell g _ (hl g (by rw[hv];rfl)) h4 rfl (a0s (by decide)),h5⟩
set_option maxRecDepth 100000 in
set_option maxHeartbeats 1600000 in
theorem d4g:NumF 2 110:=by
 intro w0 p ss w hd hb hl
 have HD:=ι hd
 have HL:=ι hl
 have b0:=a0a (Below.refl w.heap.size w) (.cells #[.pointer p] 45)
 have hbd:=Go.Boxed.new w 45 (.pointer p)
 have hz1:(w.alloc (.cells #[.pointer p] 45)).heap.size=w.heap.size+1:=by simp
 have HRE:=ι (b1o p ss (w.alloc (.cells #[.pointer p] 45)) (hd.later (hb.trans (b0.mono hl))))
 have cd1:=hbd.cell
 have HBD:=ι hbd
 have HB0:=ι b0
 have HZ1:=ι hz1
 have HRL:=ι (c4y ss)
 have HHAS:=ι fun z (h:0≤z)=>c3u (ss:=ss) h
 generalize reachI ss=rs at *
 clear hd hb hl hbd b0 hz1
 go_enter Tryz.func110,Tryz.ntmps110
 go_wp2_with (first
  | (go_at_call 65;refine HRE.out.mono ?_;rintro e w2 ⟨q,n,c,rfl,hb2,ho2,hlow⟩;have B2:=ι hb2;have O2:=ι ho2;have LOW:=ι hlow;have cd2:(w2.alloc (.cells #[.slice q n c] 31)).cell? ⟨w.heap.size,0,none⟩=some (.pointer p):=(((rng.Calm.of_below (B:=0) hb2).boxed HBD.out).alloc _).cell;clear hb2 ho2 hlow)
  | (go_at_call 157;refine(a7q _ _ _ _).mono ?_;rintro e w4 ⟨rfl,rfl⟩))
 go_ret
 have hs2:=B2.out.size
 have hz1:=HZ1.out
 have hls:rs.length=n:=by have:=O2.out.1;simpa [i64s] using this
 obtain⟨W3,hW3⟩:∃W3,w2.alloc (.cells #[.slice q n c] 31)=W3:=⟨_,rfl⟩
 have hz3:W3.heap.size=w2.heap.size+1:=by rw[← hW3];simp
 have b3:Below w2.heap.size w2 W3:=by rw[← hW3];exact a0a (Below.refl _ _) _
 have hbr3:Go.Boxed W3 w2.heap.size 31 (.slice q n c):=by rw[← hW3];exact Go.Boxed.new _ _ _
 rw[hW3]
 have hbd3:Go.Boxed W3 w.heap.size 45 (.pointer p):=(rng.Calm.of_below (B:=0) b3).boxed ((rng.Calm.of_below (B:=0) B2.out).boxed HBD.out)
 have b13:Below w.heap.size w W3:=a0b HB0.out (a0b B2.out b3)
 have ho3:rows.Own W3 0 3 1 (.slice q n c) n (i64s rs):=a3x O2.out (rng.Calm.of_below (B:=0) b3)
 refine⟨_,_,rfl,a0b b13 (a0a (a0a (Below.refl _ _) _) _),enters_of Tryz.func197 (by kernel_rfl) rfl,fun m V hK h1 h2 => ?_⟩
 refine Seq.toS a0j (d2n w0 p ss HD.out w.heap.size _ w.heap.size w2.heap.size q n c rs ((hbd3.alloc _).alloc _) ((hbr3.alloc _).alloc _) (fun V2 hK2=>(hK2.own (a3x ho3 (rng.Calm.of_below (B:=0) (a0a (a0a (Below.refl _ _) _) _))) fun k hk=>by have:=LOW.out k hk;omega).rd) (by rw[← hls];have:=HRL.out;omega) (fun z h0 _=>HHAS.out z h0) (w2.heap.size+1) (w2.heap.size+1+1) ?_ ?_ (by omega) HL.out m V hK h1 h2)
 ·have h:=(Go.Boxed.new W3 45 (.pointer p)).alloc (.cells #[.func (.func 159) #[] #[.pointer (some ⟨w2.heap.size,0,none⟩),.pointer (some ⟨w.heap.size,0,none⟩)]] 225)
  rw[hz3] at h
  exact h
 ·have h:=Go.Boxed.new (W3.alloc (.cells #[.pointer p] 45)) 225 (.func (.func 159) #[] #[.pointer (some ⟨w2.heap.size,0,none⟩),.pointer (some ⟨w.heap.size,0,none⟩)])
  rw[World.size_alloc,hz3] at h
  exact h
theorem nums(i:Nat)(hi:i<6):NumF i (gsN i):=by
 rcases i with _|_|_|_|_|_|i
 ·exact odd_num
 ·exact d1x
 ·exact d4g
 ·exact dbl_num
 ·exact lnk_num
 ·exact shr_num
 ·omega
end lk
namespace lk
set_option maxRecDepth 100000
open Go.ChangeShapes Go.WideShapes Go.ChangeAt Go.RowKit
open rows
open sec
open ly
open rng
attribute [local go_sem] Oper.semAt_some
def row0:Array Value := #[.int .i64 0,.nilFunc,.int .i64 0,.nilFunc,.int .i64 0,.nilFunc,.int .i64 0,.nilFunc,.int .i64 0,.nilFunc,.int .i64 0,.nilFunc]
theorem store_6{ops:Array Oper}{rest:List Oper}{o:Oper}{a:Act}{w:World}{Q:Exit→Act→World→Prop}(hgd:o.guard=none)(x y:Operand)(ho:o.op = .store 175 x y)(hd:o.dst=none)
  (g:Nat) (hx:a.eval x = .pointer (some ⟨g,0,none⟩)) (hy:a.eval y = .agg rowP) (hg:w.heap[g]? = some (.cells row0 175 (0,0)))
  (h:∀w',w'.heap[g]? = some (.cells rowP 175 (0,0))→Below g w w'→wpList Tryz.prog ops Q rest a w'):wpList Tryz.prog ops Q (o::rest) a w:=by
 refine wpList_store_row hgd 175 x y ho g rowP hx hy 175 row0 hg (by rw[info_6];rfl) rfl (by simp[rowP,Value.oneCell']) ?_
 rw[hd]
 exact h _ (setRow_heap w g _ _ _ _ hg) ((Below.refl g w).trans ⟨rfl,rfl,rfl,by simp[World.setRow],fun k hk=>setRow_other w g k _ (by omega)⟩)
theorem a8i(p:Option Addr)(w:World):Calls Tryz.prog 66 #[.pointer p] w fun e w'=>e = .returned (.func (.func 114) #[] #[.pointer (some ⟨w.heap.size+1,0,none⟩),.pointer (some ⟨w.heap.size,0,none⟩)])∧Below w.heap.size w w'∧Go.Boxed w' w.heap.size 45 (.pointer p)∧w'.heap[w.heap.size+1]? = some (.cells rowP 175 (0,0)):=by
 have HB:=ι (Go.Boxed.new w 45 (.pointer p))
 have hz:(w.alloc (.cells #[.pointer p] 45)).heap.size=w.heap.size+1:=by simp
 have hn:=heap_alloc_new (w.alloc (.cells #[.pointer p] 45)) (.cells row0 175)
 rw[hz] at hn
 have HN:=ι hn
 have hb:=a0a (Below.refl w.heap.size w) (.cells #[.pointer p] 45)
 have HBB:=ι hb
 have hbn:=a0a (Below.refl _ (w.alloc (.cells #[.pointer p] 45))) (.cells row0 175)
 rw[hz] at hbn
 have HBN:=ι hbn
 have HZ:=ι hz
 clear hz hn hb hbn
 go_enter Tryz.func66,Tryz.ntmps66
 go_wp2_with (refine store_6 rfl (.tmp 3) (.tmp 10) rfl rfl (w.heap.size+1) rfl rfl HN.out ?_;intro w3 hA hB;have A3:=ι hA;have B3:=ι (HBN.out.trans hB);clear hA hB)
 go_ret
 exact⟨rfl,HBB.out.trans (B3.out.mono (Nat.le_succ _)),(B3.out.block _ (Nat.lt_succ_self _)).trans HB.out,A3.out⟩
set_option maxRecDepth 100000 in
set_option maxHeartbeats 4000000 in
theorem c5t(p:Option Addr)(ss:List (List Int))(w:World)(hd:Dk w (.pointer p) ss) :
  Calls Tryz.prog 23 #[.pointer p] w (Rt w (.bool (cleanB ss))):=by
 have HD:=ι hd
 have HPR:=ι (a8i p (w.alloc (.cells #[.bool false] 4)))
 have hrb:=Go.Boxed.new w 4 (.bool false)
 have hb1:=a0a (Below.refl w.heap.size w) (.cells #[.bool false] 4)
 have hz1:(w.alloc (.cells #[.bool false] 4)).heap.size=w.heap.size+1:=by simp
 rw[hz1] at HPR
 have HRB:=ι hrb
 have HB1:=ι hb1
 have HZ1:=ι hz1
 clear hd hrb hb1 hz1
 refine(callsIn_wide (n:=10)).1 (callsIn_of_wp_marks Tryz.func23 rfl trivial ?_ rfl)
 simp only[Tryz.ntmps23,List.size_toArray,List.length_cons,List.length_nil,Nat.reduceAdd,Nat.reduceSub,Array.replicate_succ,Array.replicate_zero,List.push_toArray,List.append_toArray,List.nil_append,List.cons_append]
 gi_wp2_with (refine⟨trivial,?_⟩;gi_at_call 66;refine(callsIn_wide.2 HPR.out).mono ?_;rintro e w2 ⟨rfl,hb2,hd2,hr2⟩;have B2:=ι hb2;have D2:=ι hd2;have R2:=ι hr2;clear hb2 hd2 hr2)
 have hz:=HZ1.out
 have hs2:w.heap.size<w2.heap.size:=by have:=B2.out.size;omega
 have HS2:=ι hs2
 have hbw:Below w.heap.size w w2:=HB1.out.trans (B2.out.mono (Nat.le_succ _))
 have HBW:=ι hbw
 have HI0:Hid (([]:List (Nat×Nat))=[]∧Below w.heap.size w w2∧Go.Boxed w2 w.heap.size 4 (.bool false)):=ι ⟨rfl,hbw,(B2.out.block _ (Nat.lt_succ_self _)).trans HRB.out⟩
 clear hz hs2 hbw
 refine a7e (gf:=114) (lb := #[.pointer (some ⟨w.heap.size+1+1,0,none⟩),.pointer (some ⟨w.heap.size+1,0,none⟩)]) rfl (enters_of Tryz.func114 (by kernel_rfl) rfl) (m:=fun _ _=>False)
  (a9w nums w p ss HD.out (w.heap.size+1) w2 (w.heap.size+1+1) (w.heap.size+1) R2.out D2.out (by omega) (Nat.le_succ _) (fun b o=>b=w2.heap.size+1∨False) w2 (Keep.refl HBW.out) (fun b o hb=>by
   have:=HS2.out
   rcases hb with hb|hb
   ·omega
   ·exact hb.elim) (fun b o hb=>by
   rcases hb with hb|hb
   ·exact Or.inr (Or.inr (by omega))
   ·exact hb.elim))
  (fun b o hb=>hb.elim) a0j (fun _=>rfl)
  (fun pre V=>pre=[]∧Below w.heap.size w V∧Go.Boxed V w.heap.size 4 (.bool false))
  (fun c pre V=>c = .ret∧pre≠[]∧Below w.heap.size w V∧Go.Boxed V w.heap.size 4 (.bool false))
  (fun s A B h hc=>⟨h.1,h.2.1.trans (hc.below (by have:=HS2.out;omega) h.2.1.size),hc.boxed HS2.out h.2.2⟩)
  (fun c s A B h hc=>⟨h.1,h.2.1,h.2.2.1.trans (hc.below (by have:=HS2.out;omega) h.2.2.1.size),hc.boxed HS2.out h.2.2.2⟩)
  HI0.out
  (fun pre x a' V=>(pre=[]∧Below w.heap.size w V∧Go.Boxed V w.heap.size 4 (.bool false))∧∃t1 t3 t4 t5,a'={ tmps := #[.pointer p,t1,.pointer (some ⟨w.heap.size,0,none⟩),t3,t4,t5],defers:=[] })
  (fun s x a' A B h hc=>⟨⟨h.1.1,h.1.2.1.trans (hc.below (by have:=HS2.out;omega) h.1.2.1.size),hc.boxed h.1.2.2⟩,h.2⟩)
  ?assign ?body ?done ?stop
 case assign =>
  rintro l2 pre x V hI hsz _
  have HI2:=ι hI
  clear hI
  gi_wp2
  trace_state
  first|exact⟨⟨HI2.out,_,_,_,_,rfl⟩,Turn.refl _ _⟩|exact⟨HI2.out,Turn.refl _ _⟩|exact⟨HI2.out.1,HI2.out.2.1,HI2.out.2.2,Turn.refl _ _⟩
 case body =>
  rintro l2 pre x a' V ⟨hI,t1,t3,t4,t5,rfl⟩ hsz hsp
  have HI2:=ι hI
  have c1:=hI.2.2.cell
  have f1:=hI.2.2.frozen
  clear hI
  gi_wp2
  have h:=HI2.out
  exact⟨⟨rfl,by simp,h.2.1.setCell (p:=⟨w.heap.size,0,none⟩) (Nat.le_refl _) _,h.2.2.set _⟩,Turn.of_touch' (dsk.Touch.setCell (S:=fun g=>g=w.heap.size) (dsk.Touch.refl _ V) ⟨w.heap.size,0,none⟩ rfl _) fun k o _ hk=>Or.inl (by have:=HS2.out;omega)⟩
 case done =>
  rintro D ys V hD rfl hI hK
  have HI:=ι hI
  have b1:=hI.2.2.cell
  have f1:=hI.2.2.frozen
  clear hI
  gi_wp2
  have hK':=(KeepsOthers.setCell V ⟨w.heap.size,0,none⟩ (.bool true)).same D _ hK rfl
  refine⟨by simp,.inl ⟨_,_,rfl,run_takeDeferred hK',?_⟩⟩
  have hb:=HI.out.2.1.setCell (p:=⟨w.heap.size,0,none⟩) (Nat.le_refl _) (.bool true)
  have hq:=cell_kept (HI.out.2.2.set (.bool true)).cell (grownBy_putObj' _ D (.deferred none)) (fun r e=>by cases e;exact⟨_,hK',rfl⟩)
  refine⟨.bool true,by simp[results,Tryz.f23,go_sem,hq],by rw[cleanB,HI.out.1];rfl,hb.grown (grownBy_putObj' _ D (.deferred none)) hb.size (fun k e=>by cases e;have:=HS2.out;omega)⟩
 case stop =>
  rintro D c pre V hD hp ⟨rfl,hne,hb,hx⟩ hK
  have HB:=ι hb
  have HX:=ι hx
  have HNE:Hid (cleanB ss=false):=ι (by
   rw[cleanB]
   cases hpr:probs ss with
   | nil=>rw[hpr] at hp;exact absurd (List.prefix_nil.1 hp) hne
   | cons a l=>rfl)
  clear hb hx hp hne
  gi_wp2
  refine⟨by simp,.inl ⟨_,_,rfl,run_takeDeferred hK,?_⟩⟩
  have hq:=cell_kept HX.out.cell (grownBy_putObj' _ D (.deferred none)) (fun r e=>by cases e;exact⟨_,hK,rfl⟩)
  exact⟨.bool false,by simp[results,Tryz.f23,go_sem,hq],by rw[HNE.out],HB.out.grown (grownBy_putObj' _ D (.deferred none)) HB.out.size (fun k e=>by cases e;have:=HS2.out;omega)⟩
end lk
namespace lk
set_option maxRecDepth 100000
open Go.ChangeShapes Go.WideShapes Go.ChangeAt Go.RowKit
open rows
open sec
open dsk (a0c a0g a0p a3c)
open ly
open rng
attribute [local go_sem] Oper.semAt_some
theorem c2g:Elem 117 120 2 16 (.agg #[.int .i64 0,.int .i64 0]):=⟨Tryz.underlying117,by kernel_rfl,by decide,by decide,by decide⟩
structure PAt (B:Nat) (w:World) (pre:List (Nat×Nat)) (q:Option Addr) (n c:Nat) (V:World):Prop where
 box:Go.Boxed V B 117 (.slice q n c)
 own:rows.Own V 0 120 2 (.slice q n c) n (prsC pre)
 len:n=pre.length
 low:∀k,(Value.slice q n c).ownBlock=some k→B<k
 below:Below B w V
theorem PAt.calm{B C:Nat}{w:World}{pre:List (Nat×Nat)}{q:Option Addr}{n c:Nat}{a b:World}(h:PAt B w pre q n c a)(hc:CalmS softP C a b)(hB:B<C)(hs:B≤a.heap.size):PAt B w pre q n c b:=by
 refine⟨hc.boxed hB h.box,⟨h.own.1,?_⟩,h.len,h.low,h.below.trans (hc.below (by omega) hs)⟩
 rcases h.own.2 with h2|⟨g,cap,cur,hv,h3,h4,h5⟩
 ·exact Or.inl h2
 ·exact Or.inr ⟨g,cap,cur,hv,h3,hc.block g _ h4 (Or.inr ⟨_,_,rfl⟩),h5⟩
theorem PAt.later{B:Nat}{w:World}{pre:List (Nat×Nat)}{q:Option Addr}{n c:Nat}{a b:World}(h:PAt B w pre q n c a)(hb:Below a.heap.size a b):PAt B w pre q n c b :=
 ⟨(rng.Calm.of_below (B:=0) hb).boxed h.box,a3x h.own (rng.Calm.of_below (B:=0) hb),h.len,h.low,h.below.trans (hb.mono (Nat.le_of_lt h.box.lt))⟩
theorem more_P{B:Nat}{w:World}{pre:List (Nat×Nat)}{q:Option Addr}{n c:Nat}{V wa:World}{o:Obj}{pa:Option Addr}{ca:Nat}{x:Nat×Nat}(h:PAt B w pre q n c V)
  (hoa:rows.Own wa 0 120 2 (.slice pa (n+1) ca) (n+1) (prsC pre++prC x)) (hta:dsk.Touch (fun g=>(Value.slice q n c).ownBlock=some g) (V.alloc o) wa)
  (hla:∀g,(Value.slice pa (n+1) ca).ownBlock=some g→(Value.slice q n c).ownBlock=some g∨((V.alloc o).heap.size≤g∧g<wa.heap.size)) :
  PAt B w (pre++[x]) pa (n+1) ca (wa.setCell ⟨B,0,none⟩ (.slice pa (n+1) ca))∧Turn (fun b o=>b=B∨(B<b∧∃cs,o = .cells cs 120 (0,0))) V (wa.setCell ⟨B,0,none⟩ (.slice pa (n+1) ca)):=by
 have hBV:=h.box.lt
 have hlow:∀g,(Value.slice pa (n+1) ca).ownBlock=some g→B<g:=fun g hg=>by
  rcases hla g hg with h1|h1
  ·exact h.low g h1
  ·have:=h1.1
   rw[World.size_alloc] at this
   omega
 have hb8:=a0v (h.box.alloc o) hta (fun e=>Nat.lt_irrefl _ (h.low _ e))
 have ht4:dsk.Touch (fun g=>(Value.slice q n c).ownBlock=some g∨g=B) V (wa.setCell ⟨B,0,none⟩ (.slice pa (n+1) ca)):=dsk.Touch.setCell (S:=fun g=>(Value.slice q n c).ownBlock=some g∨g=B) (((dsk.Touch.alloc (dsk.Touch.refl _ V) _).trans hta).mono (fun i hi=>Or.inl hi)) ⟨B,0,none⟩ (Or.inr rfl) _
 refine⟨⟨hb8.set _,?_,by rw[List.length_append,← h.len];rfl,hlow,h.below.trans (ht4.below (Nat.le_of_lt hBV) fun k hk => ?_)⟩,Turn.of_touch' ht4 fun k o hko hk => ?_⟩
 ·rw[c7q]
  exact dsk.a0o (S:=fun k=>B<k) hoa hlow (dsk.Keeps.set (fun g hg=>by omega) _)
 ·rcases hk with hk|rfl
  ·exact Nat.le_of_lt (h.low k hk)
  ·exact Nat.le_refl _
 ·rcases hk with hk|rfl
  ·obtain⟨cur,hc⟩:=a8z h.own hk
   rw[hko] at hc
   exact Or.inr ⟨h.low k hk,cur,Option.some.inj hc⟩
  ·exact Or.inl rfl
set_option maxRecDepth 100000 in
set_option maxHeartbeats 4000000 in
theorem b9m(w0:World)(p:Option Addr)(ss:List (List Int))(hd:Dk w0 (.pointer p) ss)(lo:Nat)(V1:World)(g bd:Nat)(hg:V1.heap[g]? = some (.cells rowP 175 (0,0)))(hbd:Go.Boxed V1 bd 45 (.pointer p))(hlo:lo≤g∧lo≤bd)(hlw:w0.heap.size≤lo)(w:World)(hk:Keep w0 lo V1 w) :
  Calls Tryz.prog 149 #[.slice none 0 0,.func (.func 114) #[] #[.pointer (some ⟨g,0,none⟩),.pointer (some ⟨bd,0,none⟩)]] w fun e w'=>∃q n c,e = .returned (.slice q n c)∧Below w.heap.size w w'∧rows.Own w' 0 120 2 (.slice q n c) n (prsC (probs ss)):=by
 have hb1:=a0a (Below.refl w.heap.size w) (.cells #[.slice none 0 0] 117)
 have hl1:=Go.Boxed.new w 117 (.slice none 0 0)
 have hz1:(w.alloc (.cells #[.slice none 0 0] 117)).heap.size=w.heap.size+1:=by simp
 have HSEQ:=ι (a9w nums w0 p ss hd lo V1 g bd hg hbd hlo hlw)
 have HK:=ι hk
 have hk0:=hk.below.size
 have HK0:=ι hk0
 have HV1:=ι hk.size
 have hlp:(probs ss).length≤150:=b8e ss 6
 have HLP:=ι hlp
 obtain⟨W2,hW2⟩:∃W2,w.alloc (.cells #[.slice none 0 0] 117)=W2:=⟨_,rfl⟩
 rw[hW2] at hb1 hl1 hz1
 have HK2:=ι (hk.later hb1)
 have HP2:Hid (∃q n c,PAt w.heap.size w [] q n c W2):=ι ⟨none,0,0,hl1,a2q _ _ _ _,rfl,fun k hk=>by simp[Value.ownBlock] at hk,hb1⟩
 have HZ:=ι hz1
 clear hd hg hbd hlo hlw hk hb1 hl1 hz1 hk0 hlp
 refine(callsIn_wide (n:=10)).1 (callsIn_of_wp_marks Tryz.func149 rfl trivial ?_ rfl)
 simp only[Tryz.ntmps149,List.size_toArray,List.length_cons,List.length_nil,Nat.reduceAdd,Nat.reduceSub,Array.replicate_succ,Array.replicate_zero,List.push_toArray,List.append_toArray,List.nil_append,List.cons_append]
 gi_wp2
 try rw[hW2]
 clear hW2
 refine a7e (gf:=114) (lb := #[.pointer (some ⟨g,0,none⟩),.pointer (some ⟨bd,0,none⟩)]) rfl (enters_of Tryz.func114 (by kernel_rfl) rfl) (m:=fun b o=>b=w.heap.size∨(w.heap.size<b∧∃cs,o = .cells cs 120 (0,0)))
  (HSEQ.out (fun b o=>b=W2.heap.size+1∨(b=w.heap.size∨(w.heap.size<b∧∃cs,o = .cells cs 120 (0,0)))) W2 HK2.out (fun b o hb=>by
   have h1:=HZ.out
   have h2:=HK0.out
   omega) (fun b o hb=>by
   have h1:=HZ.out
   have h2:=HV1.out
   rcases hb with hb|hb|⟨_,cs,rfl⟩
   ·exact Or.inr (Or.inr (by omega))
   ·exact Or.inr (Or.inr (by omega))
   ·exact Or.inr (Or.inl ⟨cs,_,rfl⟩)))
  (fun b o hb=>by
   have h1:=HZ.out
   rcases hb with hb|⟨_,cs,rfl⟩
   ·exact Or.inl (by omega)
   ·exact Or.inr ⟨cs,_,rfl⟩) a0j (fun _=>rfl)
  (fun pre V=>∃q n c,PAt w.heap.size w pre q n c V)
  (fun c pre V=>False)
  (fun s A B h hc=>by
   obtain⟨q,n,c,h⟩:=h
   exact⟨q,n,c,h.calm hc (by have:=HZ.out;omega) (Nat.le_of_lt h.box.lt)⟩)
  (fun c s A B h hc=>h)
  HP2.out
  (fun pre x a' V=>(∃q n c,PAt w.heap.size w pre q n c V)∧∃Bx t0 t1 t3 t4 t6 t7 t8 t9 t10 t11 t12,V.heap[Bx]? = some (.cells #[.int .i64 (x.1:Int),.int .i64 (x.2:Int)] 120 (0,0))∧a'={ tmps := #[t0,t1,.pointer (some ⟨w.heap.size,0,none⟩),t3,t4,.pointer (some ⟨Bx,0,none⟩),t6,t7,t8,t9,t10,t11,t12],defers:=[] })
  (fun s x a' A B h hc2=>by
   have hc:=CalmS.of a0j hc2
   obtain⟨⟨q,n,c,h⟩,Bx,t0,t1,t3,t4,t6,t7,t8,t9,t10,t11,t12,h2,h3⟩:=h
   exact⟨⟨q,n,c,h.calm hc (by have:=HZ.out;omega) (Nat.le_of_lt h.box.lt)⟩,Bx,t0,t1,t3,t4,t6,t7,t8,t9,t10,t11,t12,hc2.block _ _ h2 (Or.inr rfl),h3⟩)
  ?assign ?body ?done ?stop
 case assign =>
  rintro l2 pre x V hI hsz _
  obtain⟨x1,x2⟩:=x
  have HI2:=ι hI
  clear hI
  gi_wp2
  have hb:=a0a (Below.refl V.heap.size V) (.cells #[.int .i64 (x1:Int),.int .i64 (x2:Int)] 120)
  obtain⟨q,n,c,h⟩:=HI2.out
  exact⟨⟨⟨q,n,c,h.later hb⟩,V.heap.size,_,_,_,_,_,_,_,_,_,_,_,heap_alloc_new _ _,rfl⟩,Turn.of_below hb⟩
 case body =>
  rintro l2 pre x a' V ⟨⟨q,n,c,hI⟩,Bx,t0,t1,t3,t4,t6,t7,t8,t9,t10,t11,t12,hX,rfl⟩ hsz hsp
  have hpl:pre.length+1≤150:=by
   have:=hsp.length_le
   rw[List.length_append] at this
   have:=HLP.out
   simp at *
   omega
  have HNL:Hid (n≤150):=ι (by have:=hI.len;omega)
  have cl:=hI.box.cell
  have fl:=hI.box.frozen
  have x0:V.cell? ⟨Bx,0,none⟩=some (.int .i64 (x.1:Int)):=a0c hX 0 _ rfl
  have x1:V.cell? ⟨Bx,1,none⟩=some (.int .i64 (x.2:Int)):=a0c hX 1 _ rfl
  have HI:=ι hI
  clear hI hX hpl hsp
  gi_wp2_with (first|(refine a2b rfl ?_;refine a0g c2g (by decide) rfl (.tmp 9) rfl (prC x) rfl rfl ?_;refine a1f ?_)|(gi_at_builtin;refine a2b rfl ?_;refine a3c c2g rfl (.tmp 8) (.tmp 10) rfl _ n _ rfl (HI.out.own.alloc _) _ 1 (prC x) rfl (a0p _ _ _ _ rfl) (fun v hv=>by simp[prC] at hv;rcases hv with rfl|rfl<;>rfl) (by have:=HNL.out;omega) ?_;intro pa' ca wa hoa hta hla;have hB8:=a0v (HI.out.box.alloc (.cells (prC x).toArray 120)) hta (fun e=>Nat.lt_irrefl _ (HI.out.low _ e));have c8a:=hB8.cell;have f8a:=hB8.frozen;have HOA:=ι hoa;have HTA:=ι hta;have HLA2:=ι hla;clear hoa hta hla hB8;refine a1f ?_))
  obtain⟨r1,r2⟩:=more_P HI.out HOA.out HTA.out HLA2.out
  exact⟨⟨_,_,_,r1⟩,r2⟩
 case done =>
  rintro D ys V hD rfl ⟨q,n,c,hI⟩ hK
  have HI:=ι hI
  have cl:=hI.box.cell
  clear hI
  gi_wp2
  refine a3e (B:=W2.heap.size) (C:=V.heap.size) [D] V ⟨by simp,fun E hE=>by rw[List.mem_singleton.1 hE];exact⟨hD,(Array.getElem?_eq_some_iff.1 hK).1,hK⟩⟩ fun w' hc => ?_
  exact⟨_,results_tmp rfl _ _ _,q,n,c,rfl,HI.out.below.trans (hc.below (by have:=HZ.out;omega) HI.out.below.size),a3x HI.out.own hc⟩
 case stop =>
  rintro D c pre V hD hp h hK
  exact h.elim
set_option maxRecDepth 100000 in
theorem b8m(w0:World)(p:Option Addr)(ss:List (List Int))(hd:Dk w0 (.pointer p) ss)(lo:Nat)(V1:World)(g bd:Nat)(hg:V1.heap[g]? = some (.cells rowP 175 (0,0)))(hbd:Go.Boxed V1 bd 45 (.pointer p))(hlo:lo≤g∧lo≤bd)(hlw:w0.heap.size≤lo)(w:World)(hk:Keep w0 lo V1 w) :
  Calls Tryz.prog 103 #[.func (.func 114) #[] #[.pointer (some ⟨g,0,none⟩),.pointer (some ⟨bd,0,none⟩)]] w fun e w'=>∃q n c,e = .returned (.slice q n c)∧Below w.heap.size w w'∧rows.Own w' 0 120 2 (.slice q n c) n (prsC (probs ss)):=by
 have HA:=ι (b9m w0 p ss hd lo V1 g bd hg hbd hlo hlw w hk)
 clear hd hg hbd hlo hlw hk
 go_enter Tryz.func103,Tryz.ntmps103
 go_wp2_with (go_at_call 149;refine HA.out.mono ?_;rintro e w2 ⟨q,n,c,rfl,hb,ho⟩;have HB:=ι hb;have HO:=ι ho;clear hb ho)
 go_ret
 exact⟨q,n,c,rfl,HB.out,HO.out⟩
set_option maxRecDepth 100000 in
theorem c3z(p:Option Addr)(ss:List (List Int))(w:World)(hd:Dk w (.pointer p) ss) :
  Calls Tryz.prog 63 #[.pointer p] w fun e w'=>∃q n c,e = .returned (.slice q n c)∧Below w.heap.size w w'∧rows.Own w' 0 120 2 (.slice q n c) n (prsC (probs ss)):=by
 have HPR:=ι (a8i p w)
 have HD:=ι hd
 clear hd
 go_enter Tryz.func63,Tryz.ntmps63
 go_wp2_with (first
  | (go_at_call 66;refine HPR.out.mono ?_;rintro e w2 ⟨rfl,hb2,hd2,hr2⟩;have B2:=ι hb2;have D2:=ι hd2;have R2:=ι hr2;clear hb2 hd2 hr2)
  | (go_at_call 103;refine(b8m w p ss HD.out w.heap.size w2 (w.heap.size+1) w.heap.size R2.out D2.out (by omega) (Nat.le_refl _) w2 (Keep.refl B2.out)).mono ?_;rintro e w3 ⟨q,n,c,rfl,hb,ho⟩;have HB:=ι (a0b B2.out hb);have HO:=ι ho;clear hb ho))
 go_ret
 exact⟨q,n,c,rfl,HB.out,HO.out⟩
end lk
namespace lk
set_option maxRecDepth 100000
open Go.ChangeShapes Go.WideShapes Go.ChangeAt Go.RowKit
open rows
open sec
open dsk (Wr Wr.ok Wr.c elem_wrs a0g a0p)
open ly
theorem c7m(d:Value)(ss:List (List Int))(w:World)(hd:Dk w d ss) :
  Calls Tryz.prog 63 #[d] w fun e w'=>∃q c,e = .returned (.slice q (probs ss).length c)∧Below w.heap.size w w'∧Rd w' 2 (.slice q (probs ss).length c) (probs ss).length (prsC (probs ss)):=by
 obtain⟨p,rfl⟩:=a9l hd
 refine(c3z p ss w hd).mono ?_
 rintro e w' ⟨q,n,c,rfl,hb,ho⟩
 have hr:=ho.rd
 have hl:=dsk.Rd.count prC hr (fun x hx=>rfl) (by decide)
 rw[hl]
 exact⟨q,c,rfl,hb,hr⟩
theorem a5n(d:Value)(ss:List (List Int))(w:World)(hd:Dk w d ss) :
  Calls Tryz.prog 23 #[d] w (Rt w (.bool (cleanB ss))):=by
 obtain⟨p,rfl⟩:=a9l hd
 exact c5t p ss w hd
theorem b9r(d:Value)(ss:List (List Int))(w:World)(hd:Dk w d ss) :
  Calls Tryz.prog 65 #[d] w fun e w'=>∃q c,e = .returned (.slice q (reachN ss).length c)∧Below w.heap.size w w'∧Rd w' 1 (.slice q (reachN ss).length c) (reachN ss).length (i64s (reachI ss)):=by
 obtain⟨p,rfl⟩:=a9l hd
 refine(b1o p ss w hd).mono ?_
 rintro e w' ⟨q,n,c,rfl,hb,ho,_⟩
 have hr:=ho.rd
 have hl:(reachN ss).length=n:=by
  have:=hr.cells
  simpa [i64s,reachI] using this
 rw[hl]
 exact⟨q,c,rfl,hb,hr⟩
def sC:List Int:=[1,0,2,1,0,0,0,0,0,0,0,0,0,0,0,0,97]++List.replicate 15 0
def ckw:Wr:=⟨19,sC,0,0,0⟩
def ckImg:List (List Int):=withL emptyImg [ckw]
def ckNone:List (List Int):=withL emptyImg []
theorem ckw_ok:∀x∈[ckw],x.ok:=by
 intro x hx
 rw[List.mem_singleton.1 hx];exact⟨⟨by decide,by decide⟩,WalkArith.wf_i64 (by decide),WalkArith.wf_i64 (by decide),WalkArith.wf_i64 (by decide),WalkArith.wf_i64 (by decide)⟩
theorem c2z:probs ckImg=[(2,2)]:=by kernel_rfl
theorem d1t:cleanB ckImg=false:=by rw[cleanB,c2z];rfl
theorem ck_none:cleanB ckNone=true:=by kernel_rfl
theorem d3x:reachN ckImg=[0]:=by kernel_rfl
theorem row_prs{w:World}{q:Option Addr}{n c:Nat}{L:List (Nat×Nat)}(h:Rd w 2 (.slice q n c) n (prsC L)){j:Nat}(hj:j<n)(hl:L.length=n) :
  ∃b o,q=some ⟨b,o,none⟩∧w.cell? ⟨b,o+j * 2,none⟩=some (.int .i64 ((L[j]'(by omega)).1:Int))∧w.cell? ⟨b,o+j * 2+1,none⟩=some (.int .i64 ((L[j]'(by omega)).2:Int))∧b<w.heap.size:=by
 obtain⟨b1,o1,rfl,hc1,hmm1,hh1,hl1,HR1⟩:=dsk.Rd.chunk prC h (fun x hx=>rfl) (by decide) hj
 have hg:=HR1 j (by omega)
 exact⟨b1,o1,rfl,by simpa using hg 0 _ rfl,hg 1 _ rfl,hh1⟩
set_option maxRecDepth 100000 in
set_option maxHeartbeats 3200000 in
theorem knows13(w:World):Calls Tryz.prog 22 #[] w (Rt w (.bool true)):=by
 have KC:=ι fun w' d (hd:Dk w' d ckImg)=>by
  have h:=c7m d ckImg w' hd
  rw[c2z] at h
  exact h
 have KN:=ι fun w' d (hd:Dk w' d ckImg)=>by
  have h:=a5n d ckImg w' hd
  rw[d1t] at h
  exact h
 have KY:=ι fun w' d (hd:Dk w' d ckNone)=>by
  have h:=a5n d ckNone w' hd
  rw[ck_none] at h
  exact h
 have KR:=ι fun w' d (hd:Dk w' d ckImg)=>by
  have h:=b9r d ckImg w' hd
  rw[reachI,d3x] at h
  exact(show Calls Tryz.prog 65 #[d] w' fun e w''=>∃q c,e = .returned (.slice q 1 c)∧Below w'.heap.size w' w''∧Rd w'' 1 (.slice q 1 c) 1 (i64s [0]) from h)
 go_enter Tryz.func22,Tryz.ntmps22
 go_wp2_with (first
  | (go_at_call 8;have hb4:=B4.out;refine(b3w _).mono ?_;rintro e w5 ⟨p5,c5,rfl,hr,hb⟩;have B5:=ι (a0b hb4 hb);have R5:=ι hr;have D5:=ι (D4.out.later hb);clear hb hr hb4)
  | (go_at_call 62;refine(c3h p5 65 c5 emptyImg none 0 0 [] _ R5.out a5c (by omega) (Or.inl ⟨none,0,rfl,rfl,rfl,fun _=>rfl⟩) (fun x hx=>by cases hx) (by omega)).mono ?_;rintro e w6 ⟨d6,rfl,hd,hb⟩;have B6:=ι (a0b B5.out hb);have E6:Hid (Dk w6 d6 ckNone):=ι hd;have D6:=ι (D5.out.later hb);clear hb hd)
  | (go_at_call 23;refine(KY.out _ _ E6.out).mono ?_;rintro e w7 ⟨rfl,hb⟩;have B7:=ι (a0b B6.out hb);have D7:=ι (D6.out.later hb);clear hb)
  | (go_at_call 65;refine(KR.out _ _ D7.out).mono ?_;rintro e w8 ⟨q8,c8,rfl,hb,hr⟩;have B8:=ι (a0b B7.out hb);have R8:=ι hr;clear hb hr)
  | (go_at_call 8;refine(b3w _).mono ?_;rintro e w1 ⟨p1,c1,rfl,hr,hb⟩;have B1:=ι (show Below w.heap.size w w1 from hb);have R1:=ι hr;clear hb hr)
  | (refine wpList_buildTo rfl 65 #[(0,.const (.int .u8 1)),(1,.const (.int .u8 0)),(2,.const (.int .u8 2)),(3,.const (.int .u8 1)),(16,.const (.int .u8 97))] rfl (some 4) rfl (u8s sC).toArray (by kernel_rfl) ?_)
  | (refine wpList_buildTo rfl 103 #[(0,.const (.int .i64 19)),(1,.tmp 4)] rfl (some 5) rfl ckw.c.toArray (by kernel_rfl) ?_)
  | (refine a0g elem_wrs (by decide) rfl (.tmp 5) rfl ckw.c rfl rfl ?_)
  | (go_at_call 62;refine(c3h p1 65 c1 emptyImg _ 1 1 [ckw] _ (R1.out.later (a0a (Below.refl _ _) _)) a5c (by omega) (a0p _ _ _ _ rfl) ckw_ok (by omega)).mono ?_;rintro e w2 ⟨d,rfl,hd,hb⟩;have B2:=ι (a0b B1.out (a0b (a0a (Below.refl _ _) _) hb));have D2:Hid (Dk w2 d ckImg):=ι hd;clear hb hd)
  | (go_at_call 63;refine(KC.out _ _ D2.out).mono ?_;rintro e w3 ⟨q3,c3,rfl,hb,hr⟩;have B3:=ι (a0b B2.out hb);have D3:=ι (D2.out.later hb);obtain⟨b3,o3,hq3,x0,x1,_⟩:=row_prs hr (j:=0) (by decide) rfl;subst hq3;have y0:w3.cell? ⟨b3,o3,none⟩=some (.int .i64 2):=x0;have y1:w3.cell? ⟨b3,o3+1,none⟩=some (.int .i64 2):=x1;clear hb hr x0 x1)
  | (go_at_call 23;refine(KN.out _ _ D3.out).mono ?_;rintro e w4 ⟨rfl,hb⟩;have B4:=ι (a0b B3.out hb);have D4:=ι (D3.out.later hb);clear hb)
  | (refine a0g a8c (by decide) rfl (.const (.int .i64 0)) rfl [.int .i64 0] rfl rfl ?_)
  | (go_at_call 64;refine(d3p _ _ 1 _ _ [0] _ (R8.out.later (a0a (Below.refl _ _) _)) (a0p _ _ _ _ rfl) (by omega)).mono ?_;rintro e w9 ⟨rfl,hb⟩;have B9:=ι (a0b B8.out (a0b (a0a (Below.refl _ _) _) hb));clear hb))
 go_ret
 exact⟨rfl,B9.out⟩
end lk
end Go.Proofs.YtpnahagiojelbaaGreatDoor
