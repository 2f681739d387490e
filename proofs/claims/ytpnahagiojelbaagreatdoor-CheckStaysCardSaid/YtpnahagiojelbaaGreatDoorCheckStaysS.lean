/- What CheckStays wants, part 19. -/
import Derived.Test.YtpnahagiojelbaaGreatDoorCheckStaysA
import Derived.Test.YtpnahagiojelbaaGreatDoorCheckStaysB
import Derived.Test.YtpnahagiojelbaaGreatDoorCheckStaysC
import Derived.Test.YtpnahagiojelbaaGreatDoorCheckStaysF
import Derived.Test.YtpnahagiojelbaaGreatDoorCheckStaysG
import Derived.Test.YtpnahagiojelbaaGreatDoorCheckStaysH
import Derived.Test.YtpnahagiojelbaaGreatDoorCheckStaysI
import Derived.Test.YtpnahagiojelbaaGreatDoorCheckStaysK
import Derived.Test.YtpnahagiojelbaaGreatDoorCheckStaysM
import Derived.Test.YtpnahagiojelbaaGreatDoorCheckStaysQ
import Derived.Test.YtpnahagiojelbaaGreatDoorCheckStaysR
import Derived.Outline
set_option linter.unusedVariables false
set_option linter.unusedSimpArgs false
namespace Go.Proofs.YtpnahagiojelbaaGreatDoor
namespace lk
set_option maxRecDepth 100000
open Go.ChangeShapes Go.WideShapes Go.ChangeAt Go.RowKit
open rows
open sec
open dsk (Wr.ok wf64 St Wr CA seenOf readOf readR writeR asks grow cread uread b5w a1r a5a a1m Keeps.of_below a5o)
open ly
def Dk(w:World)(d:Value)(ss:List (List Int)):Prop:=(d = .pointer none∧ss=[])∨∃F st,CA w F d st∧st.fine∧seenOf st=ss
theorem CA.later'{w w':World}{F:Nat→Prop}{d:Value}{st:St}(h:CA w F d st)(hb:Below w.heap.size w w'):CA w' F d st:=by
 obtain⟨z,g,vs,vw,vn,vl,vf,hd,h⟩:=h
 exact⟨z,g,vs,vw,vn,vl,vf,hd,a1m h (Keeps.of_below hb)⟩
theorem Dk.later{w w':World}{d:Value}{ss:List (List Int)}(h:Dk w d ss)(hb:Below w.heap.size w w'):Dk w' d ss:=by
 rcases h with h|⟨F,st,h1,h2,h3⟩
 ·exact Or.inl h
 ·exact Or.inr ⟨F,st,CA.later' h1 hb,h2,h3⟩
theorem Dk.secs{w:World}{d:Value}{ss:List (List Int)}(h:Dk w d ss):Secs ss∧ss.length≤65:=by
 rcases h with⟨_,rfl⟩|⟨F,st,h1,h2,rfl⟩
 ·exact⟨fun s hs=>(by cases hs),Nat.zero_le _⟩
 ·exact⟨a5a h2,by rw[a1r];exact h2.n1⟩
def secAt(ss:List (List Int))(i:Int):List Int:=if 0≤i∧i<(ss.length:Int) then ss.getD i.toNat zero32 else zero32
theorem a1e{ss:List (List Int)}(h:Secs ss)(i:Int):Sec (secAt ss i):=by
 unfold secAt
 split
 ·rename_i hi
  have hl:i.toNat<ss.length:=by omega
  rw[show ss.getD i.toNat zero32=ss[i.toNat] by simp[List.getD,hl]]
  exact h _ (List.getElem_mem hl)
 ·exact a0i
theorem dread(w:World)(d:Value)(ss:List (List Int))(i:Int)(h:Dk w d ss)(hi:wf64 i) :
  Calls Tryz.prog 74 #[d,.int .i64 i] w (Rt w (.tuple #[agg (secAt ss i),.int .i64 (if 0≤i∧i<(ss.length:Int) then 0 else 1)])):=by
 rcases h with⟨rfl,rfl⟩|⟨F,st,h1,h2,rfl⟩
 ·have e:¬(0≤i∧i<(([]:List (List Int)).length:Int)):=by simp;try omega
  rw[secAt,if_neg e,if_neg e]
  exact uread (Or.inl rfl) i
 ·have h3:=cread w F d st i h1 h2 hi
  rw[readR] at h3
  rw[secAt,a1r]
  by_cases hin:0≤i∧i<(st.safe.length:Int)
  ·rw[if_pos hin] at h3
   rw[if_pos hin,if_pos hin]
   have hk:i.toNat<st.safe.length:=by omega
   have e:=b5w i.toNat st.wait st.safe (fun x hx=>(h2.pos x hx).1) hk
   have e2:(seenOf st).getD i.toNat zero32=readOf st i.toNat:=by
    have hl:i.toNat<(seenOf st).length:=by rw[a1r];exact hk
    have h1:some ((seenOf st)[i.toNat])=some (readOf st i.toNat):=(List.getElem?_eq_getElem _).symm.trans e
    rw[List.getD,List.getElem?_eq_getElem hl]
    exact Option.some.inj h1
   rw[e2]
   exact h3
  ·rw[if_neg hin] at h3
   rw[if_neg hin,if_neg hin]
   exact h3
def wr1(l:List (List Int))(x:Wr):List (List Int):=if 0≤x.pos∧x.pos<(l.length:Int) then l.set x.pos.toNat x.s else l
theorem wr1_len(l:List (List Int))(x:Wr):(wr1 l x).length=l.length:=by unfold wr1;split<;>simp
def over(ss:List (List Int))(ws:List Wr)(i:Nat):List (List Int):=(ws.take i).foldl wr1 ss
theorem a5q{ss:List (List Int)}{ws:List Wr}{i:Nat}(h:i<ws.length):over ss ws (i+1)=wr1 (over ss ws i) ws[i]:=by
 rw[over,List.take_succ_eq_append_getElem h,List.foldl_append];rfl
theorem b0a(ss:List (List Int))(ws:List Wr):∀i,i≤ws.length→(over ss ws i).length=ss.length
 | 0,_=>rfl
 | i+1,h=>by rw[a5q (show i<ws.length by omega),wr1_len,b0a ss ws i (by omega)]
def withL(ss:List (List Int))(ws:List Wr):List (List Int):=if 1≤ss.length∧ss.length≤65 then over ss ws ws.length else []
structure WAt (W:World) (ss:List (List Int)) (ws:List Wr) (i:Nat) (d:Value) (w:World) (F:Nat→Prop) (st:St):Prop where
 code:CA w F d st
 good:st.good i
 bad:st.bad=[]
 seen:seenOf st=over ss ws i
 inF:∀b,F b→W.heap.size≤b∧b<w.heap.size
 below:Below W.heap.size W w
theorem WAt.later{W w w':World}{ss:List (List Int)}{ws:List Wr}{i:Nat}{d:Value}{F:Nat→Prop}{st:St}(h:WAt W ss ws i d w F st)(hb:Below w.heap.size w w'):WAt W ss ws i d w' F st :=
 ⟨CA.later' h.code hb,h.good,h.bad,h.seen,fun b hF=>by have:=h.inF b hF;have:=hb.size;omega,a0b h.below hb⟩
theorem WAt.done{W w w':World}{ss:List (List Int)}{ws:List Wr}{i:Nat}{d:Value}{F:Nat→Prop}{st:St}(h:WAt W ss ws i d w F st)(hi:i<ws.length)(hok:∀x∈ws,x.ok)
  (hc:CA w' (grow F w w') d (writeR st ws[i].pos ws[i].s ws[i].kind ws[i].id).2) (ht:dsk.Touch F w w'):WAt W ss ws (i+1) d w' (grow F w w') (writeR st ws[i].pos ws[i].s ws[i].kind ws[i].id).2:=by
 have hz:=ht.size
 have hbz:=h.below.size
 have hsl:(over ss ws i).length=st.safe.length:=by rw[← h.seen,a1r]
 have hx:=hok _ (List.getElem_mem hi)
 have hF2:∀b,grow F w w' b→W.heap.size≤b∧b<w'.heap.size:=fun b hF=>by
  rcases hF with hF|hF
  ·have:=h.inF b hF;omega
  ·omega
 have hb2:=h.below.trans (ht.below hbz fun i hi=>(h.inF i hi).1)
 have hna:asks st=false:=by unfold asks;rw[h.bad];simp
 have hg:=h.good
 have hov:=a5q (ss:=ss) hi
 generalize ws[i]=x at *
 unfold writeR at hc ⊢
 by_cases hin:0≤x.pos∧x.pos<(st.safe.length:Int)
 ·rw[if_pos hin,if_neg (by rw[hna];decide)] at hc ⊢
  refine⟨hc,⟨hg.ss,hg.n1,fun y hy => ?_,fun e he => ?_,?_,?_,hg.bn,⟨hg.ep.1,?_⟩,⟨?_,?_⟩⟩,h.bad,?_,hF2,hb2⟩
  ·rcases List.mem_append.1 hy with hy|hy
   ·exact hg.ws y hy
   ·rw[List.mem_singleton.1 hy];exact⟨hx.1,hin⟩
  ·rcases List.mem_append.1 he with he|he
   ·exact hg.es e he
   ·rw[List.mem_singleton.1 he];exact⟨hx.1,Nat.zero_le _⟩
  ·have:=hg.wn;simp;omega
  ·have:=hg.ln;simp;omega
  ·have:=hg.ep.2;show st.ep≤((i+1:Nat):Int);omega
  ·have:=hg.asked.1;show 0≤st.asked+1;omega
  ·have:=hg.asked.2;show st.asked+1≤((i+1:Nat):Int);omega
  ·have e:seenOf { st with asked:=st.asked+1,wait:=st.wait++[⟨x.pos,x.s,x.kind,x.id,st.ep⟩],log:=st.log++[(1,⟨x.pos,x.s,x.kind,x.id,st.ep⟩,[])] }=(seenOf st).set x.pos.toNat x.s:=a5o st ⟨x.pos,x.s,x.kind,x.id,st.ep⟩
   exact e.trans (by rw[h.seen,hov,wr1,hsl,if_pos hin])
 ·rw[if_neg hin] at hc ⊢
  refine⟨hc,⟨hg.ss,hg.n1,hg.ws,hg.es,?_,?_,hg.bn,⟨hg.ep.1,?_⟩,⟨?_,?_⟩⟩,h.bad,?_,hF2,hb2⟩
  ·have:=hg.wn;show st.wait.length≤i+1;omega
  ·have:=hg.ln;show st.log.length≤i+1;omega
  ·have:=hg.ep.2;show st.ep≤((i+1:Nat):Int);omega
  ·have:=hg.asked.1;show 0≤st.asked+1;omega
  ·have:=hg.asked.2;show st.asked+1≤((i+1:Nat):Int);omega
  ·exact h.seen.trans (by rw[hov,wr1,hsl,if_neg hin])
theorem WAt.dk{W w:World}{ss:List (List Int)}{ws:List Wr}{i:Nat}{d:Value}{F:Nat→Prop}{st:St}(h:WAt W ss ws i d w F st)(hi:i≤900):Dk w d (over ss ws i):=Or.inr ⟨F,st,h.code,h.good.fine hi,h.seen⟩
theorem WAt.start{W w:World}{ss:List (List Int)}{ws:List Wr}{d:Value}(hs:Secs ss)(hl:ss.length≤65)(hb:Below W.heap.size W w)(hc:CA w (fun b=>W.heap.size≤b∧b<w.heap.size) d (dsk.st0 ss)):WAt W ss ws 0 d w (fun b=>W.heap.size≤b∧b<w.heap.size) (dsk.st0 ss) :=
 ⟨hc,⟨hs,hl,fun x hx=>(by cases hx),fun x hx=>(by cases hx),Nat.le_refl _,Nat.le_refl _,Nat.zero_le _,⟨Int.le_refl _,Int.le_refl _⟩,⟨Int.le_refl _,Int.le_refl _⟩⟩,rfl,rfl,fun b hb=>hb,hb⟩
end lk
namespace lk
set_option maxRecDepth 100000
open Go.ChangeShapes Go.WideShapes Go.ChangeAt Go.RowKit
open rows
open sec
open dsk (Wr.ok Wr.c Wr.c_len Wr a5h a0n b3k wrsC)
open ly
def WD(W:World)(ss:List (List Int))(ws:List Wr)(i:Nat)(d:Value)(w:World)(F:Nat→Prop):Prop :=
 (d = .pointer none∧¬(1≤ss.length∧ss.length≤65)∧(∀b,¬F b)∧Below W.heap.size W w)∨((1≤ss.length∧ss.length≤65)∧∃st,WAt W ss ws i d w F st)
theorem WD.later{W w w':World}{ss:List (List Int)}{ws:List Wr}{i:Nat}{d:Value}{F:Nat→Prop}(h:WD W ss ws i d w F)(hb:Below w.heap.size w w'):WD W ss ws i d w' F:=by
 rcases h with⟨h1,h2,h3,h4⟩|⟨h1,st,h2⟩
 ·exact Or.inl ⟨h1,h2,h3,a0b h4 hb⟩
 ·exact Or.inr ⟨h1,st,h2.later hb⟩
theorem WD.below{W w:World}{ss:List (List Int)}{ws:List Wr}{i:Nat}{d:Value}{F:Nat→Prop}(h:WD W ss ws i d w F):Below W.heap.size W w:=by
 rcases h with⟨_,_,_,h⟩|⟨_,st,h⟩
 ·exact h
 ·exact h.below
theorem WD.inF{W w:World}{ss:List (List Int)}{ws:List Wr}{i:Nat}{d:Value}{F:Nat→Prop}(h:WD W ss ws i d w F)(b:Nat)(hF:F b):W.heap.size≤b:=by
 rcases h with⟨_,_,h,_⟩|⟨_,st,h⟩
 ·exact absurd hF (h b)
 ·exact(h.inF b hF).1
theorem WD.dk{W w:World}{ss:List (List Int)}{ws:List Wr}{d:Value}{F:Nat→Prop}(h:WD W ss ws ws.length d w F)(hl:ws.length≤900):Dk w d (withL ss ws):=by
 rcases h with⟨rfl,h2,_,_⟩|⟨h1,st,h⟩
 ·rw[withL,if_neg h2];exact Or.inl ⟨rfl,rfl⟩
 ·rw[withL,if_pos h1];exact h.dk hl
theorem dwrite{W w:World}{ss:List (List Int)}{ws:List Wr}{i:Nat}{d:Value}{F:Nat→Prop}(h:WD W ss ws i d w F)(hi:i<ws.length)(hl:i≤900)(hok:∀x∈ws,x.ok) :
  Calls Tryz.prog 102 #[d,.int .i64 ws[i].pos,agg ws[i].s,.agg #[.int .i64 ws[i].kind,.int .i64 ws[i].id]] w fun e w'=>∃r F',e = .returned (.int .i64 r)∧WD W ss ws (i+1) d w' F'∧dsk.Touch F w w':=by
 obtain⟨o1,o2,o3,o4,o5⟩:=hok _ (List.getElem_mem hi)
 rcases h with⟨rfl,h2,h3,h4⟩|⟨h1,st,h⟩
 ·refine(dsk.uwrite (Or.inl rfl) _ _ _ _).mono ?_
  rintro e w' ⟨rfl,hb⟩
  exact⟨_,F,rfl,Or.inl ⟨rfl,h2,h3,a0b h4 hb⟩,dsk.Touch.of_below hb⟩
 ·refine(dsk.cwrite w F d st ws[i].pos ws[i].s ws[i].kind ws[i].id h.code (h.good.fine hl) o2 o1 o3 o4).mono ?_
  rintro e w' ⟨rfl,hc,ht⟩
  exact⟨_,_,rfl,Or.inr ⟨h1,_,h.done hi hok hc ht⟩,ht⟩
theorem dfrom(w:World)(p:Option Addr)(n c:Nat)(ss:List (List Int))(ws:List Wr)(hs:Secs ss)(h:Rd w 32 (.slice p n c) n (cellsOf ss))(hn:n≤200) :
  Calls Tryz.prog 30 #[.slice p n c] w fun e w'=>∃d r F,e = .returned (.tuple #[d,.int .i64 r])∧WD w ss ws 0 d w' F:=by
 have hl:ss.length=n:=by have h:=h.cells;rw[a0r hs] at h;omega
 by_cases h1:1≤n∧n≤65
 ·refine(dsk.b1d w p n c ss hs h h1.1 h1.2).mono ?_
  rintro e w' ⟨ad,rfl,hc,hb⟩
  exact⟨_,_,_,rfl,Or.inr ⟨by rw[hl];exact h1,_,WAt.start hs (by omega) hb hc⟩⟩
 ·refine(dsk.b6g w p n c hn (by omega)).mono ?_
  rintro e w' ⟨rfl,hb⟩
  exact⟨_,_,fun _=>False,rfl,Or.inl ⟨rfl,by rw[hl];exact h1,fun _ h=>h,hb⟩⟩
theorem wr_tagR{w:World}{b o:Nat}{x:Wr}(hs:Sec x.s)(h:w.rangeAt b o x.c):w.rangeAt b (o+33) [.int .i64 x.kind,.int .i64 x.id]:=fun j u hj=>by
 obtain⟨_,_,c1,c2,_⟩:=a5h hs h
 match j,hj with
 | 0,hj=>simp at hj;subst hj;simpa using c1
 | 1,hj=>simp at hj;subst hj;simpa using c2
set_option maxRecDepth 100000 in
set_option maxHeartbeats 1600000 in
theorem c3h(p:Option Addr)(n c:Nat)(ss:List (List Int))(p2:Option Addr)(m c2:Nat)(ws:List Wr)(w:World)(h1:Rd w 32 (.slice p n c) n (cellsOf ss))(hs:Secs ss)(hn:n≤200)
  (h2:Rd w 36 (.slice p2 m c2) m (wrsC ws)) (hok:∀x∈ws,x.ok) (hm:m≤40) :
  Calls Tryz.prog 62 #[.slice p n c,.slice p2 m c2] w fun e w'=>∃d,e = .returned d∧Dk w' d (withL ss ws)∧Below w.heap.size w w':=by
 have H1:=ι (dfrom w p n c ss ws hs h1 hn)
 have H2:=ι h2
 have HOK:=ι hok
 have HLL:=ι (dsk.Rd.count Wr.c h2 (fun x hx=>Wr.c_len (hok x hx).1) (by decide))
 have hmi:(m:Int)≤40:=by omega
 clear h1 hs h2 hok
 go_enter Tryz.func62,Tryz.ntmps62
 go_wp2_with (go_at_call 30;refine H1.out.mono ?_;rintro e w1 ⟨d,r,F0,rfl,hwd⟩;have HWD0:=ι hwd;clear hwd)
 go_loopw [7] (fun iv wr=>∃(i:Nat) (F:Nat→Prop),i≤m∧iv = .int .i64 (i:Int)∧Hid (WD w ss ws i d wr F)) (fun iv _=>m-(intOf iv).toNat)
 case atStart=>exact⟨0,_,by omega,rfl,HWD0⟩
 case round =>
  clear HWD0
  obtain⟨i,F,hi,rfl,HKA⟩:=hrel
  by_cases him:i<m
  ·have him1:(i:Int)<m:=by omega
   have hil:i<ws.length:=by rw[HLL.out];exact him
   obtain⟨b2,o2,rfl,hcc2,hcm2,hb2,_,HR2⟩:=dsk.Rd.chunk Wr.c H2.out (fun x hx=>Wr.c_len (HOK.out x hx).1) (by decide) him
   have hmem:=List.getElem_mem hil
   have HAO:=ι (HOK.out _ hmem).1
   have HWR:=ι (Rd.rangeLater (HR2 i hil) hb2 HKA.out.below)
   have HDW:=ι fun w' (hw:WD w ss ws i d w' F)=>dwrite hw hil (by omega) HOK.out
   generalize ws[i]=x at *
   clear HR2 hmem
   have hw4:=HKA.out.below.size
   have hbw:b2<wr.heap.size:=by omega
   go_wp2_with fail
   have HKD:=ι (HKA.out.later ((Below.refl wr.heap.size wr).drew))
   have hnF:¬F b2:=fun hF=>by have:=HKA.out.inF _ hF;omega
   have hbd:b2<wr.drew.heap.size:=hbw
   have HWD:Hid (wr.drew.rangeAt b2 (o2+i * 36) x.c):=ι (Rd.rangeLater HWR.out hbw ((Below.refl wr.heap.size wr).drew))
   refine wp_region_held_drew (S:=dsk.Touch F wr.drew) (by kernel_rfl) (dsk.Touch.refl _ _) (fun hH0 => ?_)
   refine tk 0 rfl ?_
   refine tk 1 rfl ?_
   refine tk 2 rfl ?_
   refine tk 3 rfl ?_
   refine tk 4 rfl ?_
   refine tkv 5 rfl (a0n (by rfl) 3 _ Tryz.underlying3 rfl _ rfl b2 (o2+i * 36) rfl (.int .i64 x.pos) (fun w' hw=>(a5h HAO.out (dsk.Touch.range hw hbd hnF HWD.out)).1)) ?_
   refine tk 6 rfl ?_
   refine tk 7 rfl ?_
   refine tk 8 rfl ?_
   refine tk 9 rfl ?_
   refine tkv 10 rfl (a5p (by rfl) _ rfl b2 (o2+i * 36+1) rfl x.s HAO.out.1 (fun w' hw=>(a5h HAO.out (dsk.Touch.range hw hbd hnF HWD.out)).2.1)) ?_
   refine tk 11 rfl ?_
   refine tk 12 rfl ?_
   refine tk 13 rfl ?_
   refine tk 14 rfl ?_
   refine tkv 15 rfl (b3k (by rfl) _ rfl b2 (o2+i * 36+33) rfl x.kind x.id (fun w' hw=>wr_tagR HAO.out (dsk.Touch.range hw hbd hnF HWD.out))) ?_
   refine rd 16 rfl (fun K hK => ?_)
   go_simp
   refine(HDW.out _ HKD.out).mono ?_
   rintro e v16 ⟨r16,F16,rfl,hc16,ht16⟩
   have HC16:=ι hc16
   have HT16:=ι ht16
   clear hc16 ht16
   dsimp only
   refine hK.out _ _ ?_ (fun hHeld => ?_)
   ·exact HT16.out
   clear hK K
   try simp only[Act.put,List.setIfInBounds_toArray,List.set_cons_zero,List.set_cons_succ]
   refine wpAnyH_done (by kernel_rfl) ?_ _
   clear hHeld hH0
   go_wp2_with fail
   exact⟨⟨i+1,_,by omega,by go_num,HC16⟩,by simp[intOf];omega⟩
  ·obtain rfl:i=m:=by omega
   have hfin:=HKA.out
   rw[← HLL.out] at hfin
   have HF1:=ι (hfin.dk (by rw[HLL.out];omega))
   have HF2:=ι hfin.below
   clear hfin HKA
   go_wp2_with fail
   go_ret
   exact⟨d,rfl,HF1.out,HF2.out⟩
end lk
namespace lk
set_option maxRecDepth 100000
open Go.ChangeShapes Go.WideShapes Go.ChangeAt Go.RowKit
open rows
open sec
open ly
theorem c3e{ss:List (List Int)}{k:Nat}(h:k<ss.length):secAt ss (k:Int)=ss[k]:=by
 rw[secAt,if_pos (by omega)];simp[List.getD,h]
theorem a1s(w:World):AtI (w.alloc (.cells #[.int .i64 0,.int .i64 0,.int .i64 0,.int .i64 0,.int .i64 0,.int .i64 0] 75)) w.heap.size ino0:=a5s w ino0
theorem a5g(w:World):AtE (w.alloc (.cells #[.bool false,.int .i64 0,.string { data := #[] },.int .i64 0] 170)) w.heap.size ent0:=a2t w ent0
theorem b4h{fn:Func}{p:Tmp}{R:Ending→World→Prop}{a:Act}{w:World}(h:fn.results = #[.cell p 75])(g:Nat)(x:Ino)(hp:a.tmps.getD p undef = .pointer (some ⟨g,0,none⟩))(hx:x.b.length=4)(hg:AtI w g x)
  (hd:a.defers=[]) (hR:R (.returned (aggI x)) w):bodyPost Tryz.prog fn R .ret a w :=
 bodyPost_ret (results_cell_row h a.tmps w g _ _ _ _ hp hg a8y rfl (by rw[a5i];simp[a3g hx])) hd hR
theorem b0d{fn:Func}{p:Tmp}{R:Ending→World→Prop}{a:Act}{w:World}(h:fn.results = #[.cell p 170])(g:Nat)(x:Ent)(hp:a.tmps.getD p undef = .pointer (some ⟨g,0,none⟩))(hg:AtE w g x)
  (hd:a.defers=[]) (hR:R (.returned (aggE x)) w):bodyPost Tryz.prog fn R .ret a w :=
 bodyPost_ret (results_cell_row h a.tmps w g _ _ _ _ hp hg b4x rfl (by rw[a6h];rfl)) hd hR
def inoAt(ss:List (List Int))(i:Int):Ino:=if 0≤i∧i<16 then inoOfV (secAt ss (1+i)) else ino0
def entAt(ss:List (List Int))(k:Int):Ent:=if 0≤k∧k<24 then entOfV (secAt ss (17+k)) else ent0
theorem a0q{ss:List (List Int)}(hs:Secs ss)(i:Int):(inoAt ss i).b.length=4:=by
 unfold inoAt
 split
 ·exact b2g (a1e hs _)
 ·rfl
end lk
namespace lk
set_option maxRecDepth 100000
open Go.ChangeShapes Go.WideShapes Go.ChangeAt Go.RowKit
open rows
open sec
open ly
def namedIn(ss:List (List Int))(i:Int)(k:Nat):Bool:=(List.range k).any fun j=>(entAt ss (j:Int)).used && decide ((entAt ss (j:Int)).target=i)
theorem b6s(ss:List (List Int))(i:Int)(k:Nat):namedIn ss i (k+1)=(namedIn ss i k || ((entAt ss (k:Int)).used && decide ((entAt ss (k:Int)).target=i))):=by
 rw[namedIn,List.range_succ,List.any_append];simp[namedIn]
def takenB(ss:List (List Int))(i:Int):Bool:=namedIn ss i 24 || decide (i=0)
end lk
namespace lk
set_option maxRecDepth 100000
open Go.ChangeShapes Go.WideShapes Go.ChangeAt Go.RowKit
def upto(p:Nat→Bool)(k:Nat):Option Nat:=(List.range k).find? p
theorem upto_succ(p:Nat→Bool)(k:Nat):upto p (k+1)=(upto p k).or (if p k then some k else none):=by
 rw[upto,List.range_succ,List.find?_append]
 cases h:p k<;>simp[upto,h]
theorem b5b{p:Nat→Bool}{k:Nat}(h:upto p k=none)(hk:p k=true):∀m,k<m→upto p m=some k
 | 0,hm=>by omega
 | m+1,hm=>by
  rw[upto_succ]
  by_cases e:k=m
  ·subst e;rw[h,hk];rfl
  ·rw[b5b h hk m (by omega)];rfl
theorem upto_none{p:Nat→Bool}{k:Nat}:upto p k=none↔∀i,i<k→p i=false:=by
 simp[upto,List.find?_eq_none]
theorem a2o{p:Nat→Bool}{k i:Nat}(h:upto p k=some i):i<k∧p i=true∧∀j,j<i→p j=false:=by
 induction k with
 | zero=>cases h
 | succ k ih =>
  rw[upto_succ] at h
  cases hu:upto p k with
  | some j =>
   rw[hu] at h
   obtain rfl:j=i:=Option.some.inj h
   obtain⟨h1,h2,h3⟩:=ih hu
   exact⟨by omega,h2,h3⟩
  | none =>
   rw[hu] at h
   cases hk:p k with
   | false=>rw[hk] at h;cases h
   | true =>
    rw[hk] at h
    obtain rfl:k=i:=Option.some.inj h
    exact⟨by omega,hk,upto_none.1 hu⟩
def optV(o:Option Nat):Value := .tuple #[.int .i64 ((o.getD 0:Nat):Int),.bool o.isSome]
def cntU(p:Nat→Bool):Nat→Nat
 | 0=>0
 | k+1=>if p k then cntU p k+1 else cntU p k
theorem c0l(p:Nat→Bool):∀k,cntU p k≤k
 | 0=>Nat.le_refl _
 | k+1=>by
  have:=c0l p k
  rw[cntU]
  split<;>omega
theorem b7j{p q:Nat→Bool}:∀{k:Nat},(∀i,i<k→p i=true→q i=true)→cntU p k≤cntU q k
 | 0,_=>Nat.le_refl _
 | k+1,h=>by
  have ih:=b7j (p:=p) (q:=q) (k:=k) fun i hi=>h i (by omega)
  rw[cntU,cntU]
  cases hp:p k with
  | true=>rw[h k (by omega) hp,if_pos rfl,if_pos rfl];omega
  | false =>
   rw[if_neg (by decide)]
   split<;>omega
theorem b8r{p q:Nat→Bool}:∀{k:Nat},(∀i,i<k→p i=true→q i=true)→(∃i,i<k∧q i=true∧p i=false)→cntU p k<cntU q k
 | 0,_,⟨i,hi,_⟩=>by omega
 | k+1,h,⟨i,hi,hq,hp⟩=>by
  have hm:=b7j (p:=p) (q:=q) (k:=k) fun i hi=>h i (by omega)
  rw[cntU,cntU]
  by_cases e:i=k
  ·subst e
   rw[hq,hp,if_pos rfl,if_neg (by decide)];omega
  ·have ih:=b8r (p:=p) (q:=q) (k:=k) (fun i hi=>h i (by omega)) ⟨i,by omega,hq,hp⟩
   cases hpk:p k with
   | true=>rw[h k (by omega) hpk,if_pos rfl,if_pos rfl];omega
   | false =>
    rw[if_neg (by decide)]
    split<;>omega
end lk
namespace pa
set_option maxRecDepth 100000
end pa
namespace al
end al
namespace lk
open Go.ChangeShapes Go.WideShapes Go.ChangeAt Go.RowKit
open rows
open sec
open ly
open pa
def standB(ss:List (List Int))(k:Nat):Bool:=(entAt ss (k:Int)).used && !decide ((inoAt ss (entAt ss (k:Int)).target).kind=0)
def inB(ss:List (List Int))(d:Int)(nm:ByteArray)(k:Nat):Bool:=standB ss k && decide ((entAt ss (k:Int)).parent=d) && decide ((entAt ss (k:Int)).name=nm)
def findO(ss:List (List Int))(d:Int)(nm:ByteArray):Option Nat:=upto (inB ss d nm) 24
def lookG(ss:List (List Int)):Int→List (List Int)→Int×Int
 | n,[]=>(n,0)
 | n,x::r=>if (inoAt ss n).kind=2 then (match findO ss n (strOfNums x) with
  | some k=>lookG ss (entAt ss (k:Int)).target r
  | none=>(0,4)) else (0,6)
def lookV(ss:List (List Int))(s:List Int):Int×Int:=match splitL s with
 | none=>(0,9)
 | some ns=>lookG ss 0 ns
theorem b4a{ss:List (List Int)}{n:Int}{x:List Int}{r:List (List Int)}(h:(inoAt ss n).kind≠2):lookG ss n (x::r)=(0,6):=by rw[lookG,if_neg h]
theorem c5c{ss:List (List Int)}{n:Int}{x:List Int}{r:List (List Int)}(h:(inoAt ss n).kind=2)(hf:findO ss n (strOfNums x)=none):lookG ss n (x::r)=(0,4):=by rw[lookG,if_pos h,hf]
theorem a8x{ss:List (List Int)}{n:Int}{x:List Int}{r:List (List Int)}{k:Nat}(h:(inoAt ss n).kind=2)(hf:findO ss n (strOfNums x)=some k):lookG ss n (x::r)=lookG ss (entAt ss (k:Int)).target r:=by rw[lookG,if_pos h,hf]
theorem a5j{ss:List (List Int)}(hs:Secs ss)(k:Int):0≤(entAt ss k).parent∧(entAt ss k).parent≤255∧0≤(entAt ss k).target∧(entAt ss k).target≤255:=by
 have f0:0≤ent0.parent∧ent0.parent≤255∧0≤ent0.target∧ent0.target≤255:=by decide
 unfold entAt
 split
 ·have hS:=a1e hs (17+k)
  rw[entOfV]
  split
  ·have h1:=a1q hS 1
   have h2:=a1q hS 2
   simp only[entC]
   omega
  ·exact f0
 ·exact f0
theorem b8c{l:List Int}(h:l.length=4):∃a b c d,l=[a,b,c,d]:=by
 match l,h with
 | [a,b,c,d],_=>exact⟨a,b,c,d,rfl⟩
theorem fieldI0(x:Ino)(h:x.b.length=4)(w:World):(Instr.field 75 (aggI x) 0).run Tryz.prog w = .ok (.int .i64 x.kind) w:=by
 obtain⟨kd,sz,bl⟩:=x
 obtain⟨a,b,c,d,rfl⟩:=b8c h
 kernel_rfl
theorem fieldE3(x:Ent)(w:World):(Instr.field 170 (aggE x) 3).run Tryz.prog w = .ok (.int .i64 x.target) w:=by
 obtain⟨u,pa,nm,tg⟩:=x
 kernel_rfl
theorem c7w{ss:List (List Int)}{s:List Int}(h:splitL s=none):lookV ss s=(0,9):=by rw[lookV,h]
theorem c8z{ss:List (List Int)}{s:List Int}{ns:List (List Int)}(h:splitL s=some ns):lookV ss s=lookG ss 0 ns:=by rw[lookV,h]
theorem a5r:optV none = .tuple #[.int .i64 0,.bool false]:=rfl
theorem a5u(k:Nat):optV (some k) = .tuple #[.int .i64 (k:Int),.bool true]:=rfl
def lookT(x:Int×Int):Value := .tuple #[.int .i64 x.1,.int .i64 x.2]
theorem b4v{ss:List (List Int)}{d:Int}{nm:ByteArray}{k:Nat}(h:findO ss d nm=some k):k<24:=(a2o h).1
end lk
namespace al
set_option maxRecDepth 100000
open Go.ChangeShapes Go.WideShapes Go.ChangeAt Go.RowKit
open rows
open sec
open ly
open lk
def frI(ss:List (List Int)):Option Nat:=upto (fun n => !takenB ss (n:Int)) 16
def frE(ss:List (List Int)):Option Nat:=upto (fun k => !(entAt ss (k:Int)).used) 24
theorem c1x{ss:List (List Int)}(hs:Secs ss)(i:Int):InoFine (inoAt ss i):=by
 have f0:InoFine ino0:=⟨Int.le_refl _,by decide,Int.le_refl _,by decide,fun z hz=>by simp[ino0] at hz;omega⟩
 unfold inoAt
 split
 ·rw[inoOfV]
  split
  ·rename_i _ h
   rw[inoOfB,Bool.and_eq_true] at h
   exact a6w (a3q (a1e hs _)) h.1
  ·exact f0
 ·exact f0
def setAll(l:List Bool)(bs:List Int):List Bool:=bs.foldl (fun l b=>l.set b.toNat true) l
theorem b3t(bs:List Int):∀(l:List Bool),(setAll l bs).length=l.length:=by
 induction bs with
 | nil=>intro l;rfl
 | cons b r ih=>intro l;rw[setAll,List.foldl_cons];exact(ih _).trans (by simp)
theorem c0j{l:List Bool}{bs:List Int}{i:Nat}(h:i<bs.length):setAll l (bs.take (i+1))=(setAll l (bs.take i)).set (bs.getD i 0).toNat true:=by
 rw[List.take_succ_eq_append_getElem h,setAll,List.foldl_append]
 simp[setAll,List.getD,h]
theorem c6j(bs:List Int)(hb:∀z∈bs,0≤z):∀(l:List Bool) (b:Nat),b<l.length→(setAll l bs).getD b false=(l.getD b false || bs.contains (b:Int)):=by
 induction bs with
 | nil=>intro l b _;simp[setAll]
 | cons x r ih =>
  intro l b hl
  rw[setAll,List.foldl_cons,← setAll,ih (fun z hz=>hb z (List.mem_cons_of_mem _ hz)) _ b (by simpa using hl)]
  have hx:=hb x (List.mem_cons_self ..)
  by_cases e:x=(b:Int)
  ·subst e
   simp[List.getD,hl]
  ·have e2:x.toNat≠b:=by omega
   have e3:((b:Int) == x)=false:=beq_eq_false_iff_ne.2 (fun h=>e h.symm)
   rw[List.contains_cons,e3,Bool.false_or]
   simp[List.getD,List.getElem?_set,e2]
def liveB(ss:List (List Int))(n:Nat):Bool:=decide ((inoAt ss (n:Int)).kind=1) && takenB ss (n:Int)
def marks0:List Bool:=List.replicate 25 false
def hasU(ss:List (List Int))(b:Nat)(n:Nat):Bool:=(List.range n).any fun i=>liveB ss i && (inoAt ss (i:Int)).b.contains (b:Int)
theorem c6b(ss:List (List Int))(b n:Nat):hasU ss b (n+1)=(hasU ss b n || (liveB ss n && (inoAt ss (n:Int)).b.contains (b:Int))):=by
 rw[hasU,List.range_succ,List.any_append];simp[hasU]
def usedB(ss:List (List Int))(b:Nat):Bool:=b == 0 || hasU ss b 16
def frU(ss:List (List Int)):Nat→List Nat
 | 0=>[]
 | b+1=>if usedB ss b then frU ss b else frU ss b++[b]
def frB(ss:List (List Int)):List Nat:=frU ss 25
theorem b4j(ss:List (List Int)):∀(k b:Nat),b∈frU ss k↔b<k∧usedB ss b=false
 | 0,b=>by simp[frU]
 | k+1,b=>by
  rw[frU]
  cases hu:usedB ss k with
  | true =>
   rw[if_pos rfl,b4j ss k b]
   constructor
   ·rintro⟨h1,h2⟩;exact⟨by omega,h2⟩
   ·rintro⟨h1,h2⟩
    refine⟨?_,h2⟩
    by_cases e:b=k
    ·subst e;rw[hu] at h2;cases h2
    ·omega
  | false =>
   rw[if_neg (by decide),List.mem_append,b4j ss k b,List.mem_singleton]
   constructor
   ·rintro(⟨h1,h2⟩|rfl)
    ·exact⟨by omega,h2⟩
    ·exact⟨by omega,hu⟩
   ·rintro⟨h1,h2⟩
    by_cases e:b=k
    ·exact Or.inr e
    ·exact Or.inl ⟨by omega,h2⟩
theorem a9c(ss:List (List Int)):∀k,(frU ss k).Pairwise (· < ·)
 | 0=>List.Pairwise.nil
 | k+1=>by
  rw[frU]
  split
  ·exact a9c ss k
  ·rw[List.pairwise_append]
   refine⟨a9c ss k,List.pairwise_singleton _ _,fun a ha b hb => ?_⟩
   rw[List.mem_singleton.1 hb]
   exact((b4j ss k a).1 ha).1
theorem c8l(ss:List (List Int)):∀k,(frU ss k).length≤k
 | 0=>Nat.le_refl _
 | k+1=>by
  have:=c8l ss k
  rw[frU]
  split
  ·omega
  ·simp;omega
theorem used0(ss:List (List Int)):usedB ss 0=true:=rfl
theorem d0d(ss:List (List Int))(k:Nat):∀m,frU ss k <+: frU ss (k+m)
 | 0=>List.prefix_refl _
 | m+1=>by
  have h:=d0d ss k m
  rw[← Nat.add_assoc,frU]
  split
  ·exact h
  ·exact h.trans (List.prefix_append _ _)
def cntI(ss:List (List Int)):Nat:=cntU (fun n=>takenB ss (n:Int)) 16
def cntBU(ss:List (List Int))(k:Nat):Nat:=cntU (fun i=>usedB ss (i+1)) k
def cntB(ss:List (List Int)):Nat:=cntBU ss 24
theorem c9i(ss:List (List Int)):∀k,(frU ss (k+1)).length+cntBU ss k=k
 | 0=>by rw[frU,if_pos (used0 ss)];rfl
 | k+1=>by
  have:=c9i ss k
  rw[frU,cntBU,cntU]
  unfold cntBU at this
  cases hu:usedB ss (k+1) with
  | true=>rw[if_pos rfl,if_pos rfl];omega
  | false=>rw[if_neg (by decide),if_neg (by decide),List.length_append];simp;omega
theorem c7k(ss:List (List Int)):(frB ss).length=24-cntB ss∧cntB ss≤24:=by
 have h:(frU ss 25).length+cntBU ss 24=24:=c9i ss 24
 have h2:=c0l (fun i=>usedB ss (i+1)) 24
 unfold frB cntB
 unfold cntBU at *
 omega
end al
namespace al
set_option maxRecDepth 100000
open Go.ChangeShapes Go.WideShapes Go.ChangeAt Go.RowKit
open rows
open sec
open ly
open lk
def boolsV(l:List Bool):List Value:=l.map .bool
abbrev aggM(l:List Bool):Value := .agg (boolsV l).toArray
theorem c4i(l:List Bool):(boolsV l).length=l.length:=by simp[boolsV]
theorem a9b(l:List Bool):∀u∈boolsV l,u.oneCell'=true:=by
 intro u hu
 obtain⟨b,_,rfl⟩:=List.mem_map.1 hu
 rfl
theorem lit_m:(#[.bool false,.bool false,.bool false,.bool false,.bool false,.bool false,.bool false,.bool false,.bool false,.bool false,.bool false,.bool false,.bool false,.bool false,.bool false,.bool false,.bool false,.bool false,.bool false,.bool false,.bool false,.bool false,.bool false,.bool false,.bool false]:Array Value)=(boolsV marks0).toArray:=by kernel_rfl
end al
namespace al
set_option maxRecDepth 100000
open Go.ChangeShapes Go.WideShapes Go.ChangeAt Go.RowKit
open rows
open sec
open ly
open lk
theorem elem_is:Elem 31 3 1 8 (.int .i64 0):=⟨Tryz.underlying31,by kernel_rfl,by decide,by decide,by decide⟩
def blkB(ss:List (List Int))(z:Int):Bool:=decide (0≤z∧z≤((frB ss).length:Int))
def ofNats(l:List Nat):List Int:=l.map fun b:Nat=>(b:Int)
def blkL(ss:List (List Int))(z:Int):List Int:=if blkB ss z then ofNats ((frB ss).take z.toNat) else []
theorem a2z(l:List Nat):(ofNats l).length=l.length:=by simp[ofNats]
theorem c0x(l:List Nat)(b:Nat):ofNats (l++[b])=ofNats l++[(b:Int)]:=by simp[ofNats]
theorem d2u{ss:List (List Int)}{z:Int}{b:Nat}(hb:b≤25)(h:((frU ss b).length:Int)=z):blkB ss z=true∧blkL ss z=ofNats (frU ss b):=by
 have hp:=d0d ss b (25-b)
 rw[show b+(25-b)=25 by omega] at hp
 have hl:=hp.length_le
 have h1:blkB ss z=true:=by
  rw[blkB,decide_eq_true_eq]
  refine⟨by omega,?_⟩
  unfold frB
  omega
 refine⟨h1,?_⟩
 rw[blkL,if_pos h1,show z.toNat=(frU ss b).length by omega]
 unfold frB
 rw[← List.prefix_iff_eq_take.1 hp]
theorem blk_not{ss:List (List Int)}{z:Int}(h:z<0∨((frU ss 25).length:Int)<z):blkB ss z=false∧blkL ss z=[]:=by
 have h1:blkB ss z=false:=by
  rw[blkB,decide_eq_false_iff_not]
  unfold frB
  omega
 exact⟨h1,by rw[blkL,h1];rfl⟩
theorem c8c(l:List Int)(z:Int):i64s l++[.int .i64 z]=i64s (l++[z]):=by simp[i64s]
end al
namespace lk
set_option maxRecDepth 100000
open Go.ChangeShapes Go.WideShapes Go.ChangeAt Go.RowKit
open rows
open sec
open dsk (wf64)
open ly
set_option maxRecDepth 100000 in
set_option maxHeartbeats 1600000 in
theorem b6m(w:World)(d:Value)(ss:List (List Int))(i:Int)(h:Dk w d ss)(hi:wf64 i):Calls Tryz.prog 137 #[d,.int .i64 i] w (Rt w (agg (secAt ss i))):=by
 have HT:=ι fun w' (hb:Below w.heap.size w w')=>dread w' d ss i (h.later hb) hi
 have hS:=a1e h.secs.1 i
 have A0:=ι (a1n w)
 have hb0:=a0a (Below.refl w.heap.size w) (.cells #[Value.int IntKind.u8 0,Value.int IntKind.u8 0,Value.int IntKind.u8 0,Value.int IntKind.u8 0,Value.int IntKind.u8 0,Value.int IntKind.u8 0,Value.int IntKind.u8 0,Value.int IntKind.u8 0,Value.int IntKind.u8 0,Value.int IntKind.u8 0,Value.int IntKind.u8 0,Value.int IntKind.u8 0,Value.int IntKind.u8 0,Value.int IntKind.u8 0,Value.int IntKind.u8 0,Value.int IntKind.u8 0,Value.int IntKind.u8 0,Value.int IntKind.u8 0,Value.int IntKind.u8 0,Value.int IntKind.u8 0,Value.int IntKind.u8 0,Value.int IntKind.u8 0,Value.int IntKind.u8 0,Value.int IntKind.u8 0,Value.int IntKind.u8 0,Value.int IntKind.u8 0,Value.int IntKind.u8 0,Value.int IntKind.u8 0,Value.int IntKind.u8 0,Value.int IntKind.u8 0,Value.int IntKind.u8 0,Value.int IntKind.u8 0] 65)
 obtain⟨W,hW⟩:∃W,w.alloc (.cells #[Value.int IntKind.u8 0,Value.int IntKind.u8 0,Value.int IntKind.u8 0,Value.int IntKind.u8 0,Value.int IntKind.u8 0,Value.int IntKind.u8 0,Value.int IntKind.u8 0,Value.int IntKind.u8 0,Value.int IntKind.u8 0,Value.int IntKind.u8 0,Value.int IntKind.u8 0,Value.int IntKind.u8 0,Value.int IntKind.u8 0,Value.int IntKind.u8 0,Value.int IntKind.u8 0,Value.int IntKind.u8 0,Value.int IntKind.u8 0,Value.int IntKind.u8 0,Value.int IntKind.u8 0,Value.int IntKind.u8 0,Value.int IntKind.u8 0,Value.int IntKind.u8 0,Value.int IntKind.u8 0,Value.int IntKind.u8 0,Value.int IntKind.u8 0,Value.int IntKind.u8 0,Value.int IntKind.u8 0,Value.int IntKind.u8 0,Value.int IntKind.u8 0,Value.int IntKind.u8 0,Value.int IntKind.u8 0,Value.int IntKind.u8 0] 65)=W:=⟨_,rfl⟩
 rw[hW] at hb0 A0
 have HB0:=ι hb0
 have HS:=ι hS
 generalize (if 0≤i∧i<(ss.length:Int) then (0:Int) else 1)=r at HT
 generalize secAt ss i=s at *
 clear h hS hb0 hi
 go_enter Tryz.func137,Tryz.ntmps137
 go_upto_region 1 with fail
 clear hW
 go_wp2_with (first|(go_at_call 74;refine(HT.out _ HB0.out).mono ?_;rintro e w1 ⟨rfl,hb⟩;have B1:=ι (a0b HB0.out hb);have A1:=ι (A0.out.later hb);clear hb)|(refine a0k rfl (.tmp 5) (.tmp 11) rfl rfl w1.heap.size s zero32 rfl rfl HS.out.1 (by decide) (a1n w1) ?_;intro w2 hA hB _;have hb:=(a0a (Below.refl _ w1) _).trans hB;have B2:=ι (a0b B1.out hb);have A2:=ι (A1.out.later hb);have S2:=ι hA;clear hA hB hb)|(refine a1v rfl (.tmp 5) rfl w1.heap.size rfl s HS.out.1 S2.out ?_)|(refine a0k rfl (.tmp 4) (.tmp 13) rfl rfl w.heap.size s zero32 rfl rfl HS.out.1 (by decide) A2.out ?_;intro w5 hA hB _;have A5:=ι hA;have B5:=ι (B2.out.trans hB);clear hA hB))
 exact a5k rfl w.heap.size s rfl HS.out.1 A5.out rfl ⟨rfl,B5.out⟩
set_option maxRecDepth 100000 in
set_option maxHeartbeats 1600000 in
theorem a4a(w:World)(d:Value)(ss:List (List Int))(i:Int)(h:Dk w d ss)(hi:wf64 i):Calls Tryz.prog 83 #[d,.int .i64 i] w (Rt w (aggI (inoAt ss i))):=by
 have A0:=ι (a1s w)
 have hb0:=a0a (Below.refl w.heap.size w) (.cells #[.int .i64 0,.int .i64 0,.int .i64 0,.int .i64 0,.int .i64 0,.int .i64 0] 75)
 obtain⟨i1,i2⟩:=rows.wf_i64 hi
 by_cases hin:0≤i∧i<16
 ·have e:inoAt ss i=inoOfV (secAt ss (1+i)):=by rw[inoAt,if_pos hin]
  rw[e]
  have HT:=ι fun w' (hb:Below w.heap.size w w')=>b6m w' d ss (1+i) (h.later hb) (WalkArith.wf_i64 (by omega))
  have hS:=a1e h.secs.1 (1+i)
  have HI:=ι fun w=>c0v (secAt ss (1+i)) hS w
  have H4:=ι (b2g hS)
  obtain⟨j1,j2⟩:=hin
  obtain⟨W,hW⟩:∃W,w.alloc (.cells #[.int .i64 0,.int .i64 0,.int .i64 0,.int .i64 0,.int .i64 0,.int .i64 0] 75)=W:=⟨_,rfl⟩
  rw[hW] at hb0 A0
  have HB0:=ι hb0
  generalize inoOfV (secAt ss (1+i))=x at *
  generalize inoOfB (secAt ss (1+i))=xb at *
  generalize secAt ss (1+i)=s at *
  clear h hS e hb0
  go_enter Tryz.func83,Tryz.ntmps83
  go_upto_region 1 with fail
  clear hW
  go_wp2_with (first|(go_at_call 137;refine(HT.out _ HB0.out).mono ?_;rintro e w1 ⟨rfl,hb⟩;have B1:=ι (a0b HB0.out hb);have A1:=ι (A0.out.later hb);clear hb)|(go_at_call 136;refine(HI.out _).mono ?_;rintro e w3 ⟨rfl,hb⟩;have B3:=ι (a0b B1.out hb);have A3:=ι (A1.out.later hb);clear hb)|(refine a0m rfl (.tmp 5) (.tmp 20) rfl rfl w3.heap.size x ino0 rfl rfl H4.out rfl (a1s w3) ?_;intro w4 hA hB _;have hb:=(a0a (Below.refl _ w3) _).trans hB;have B4:=ι (a0b B3.out hb);have A4:=ι (A3.out.later hb);have X4:=ι hA;clear hA hB hb)|(refine a0z rfl (.tmp 5) rfl w3.heap.size rfl x H4.out X4.out ?_)|(refine a0m rfl (.tmp 4) (.tmp 22) rfl rfl w.heap.size x ino0 rfl rfl H4.out rfl A4.out ?_;intro w5 hA hB _;have A5:=ι hA;have B5:=ι (B4.out.trans hB);clear hA hB))
  exact b4h rfl w.heap.size x rfl H4.out A5.out rfl ⟨rfl,B5.out⟩
 ·have e:inoAt ss i=ino0:=by rw[inoAt,if_neg hin]
  rw[e]
  clear h e
  obtain⟨W,hW⟩:∃W,w.alloc (.cells #[.int .i64 0,.int .i64 0,.int .i64 0,.int .i64 0,.int .i64 0,.int .i64 0] 75)=W:=⟨_,rfl⟩
  rw[hW] at hb0 A0
  have HB0:=ι hb0
  clear hb0
  by_cases hz:i<0
  ·go_enter Tryz.func83,Tryz.ntmps83
   go_upto_region 1 with fail
   clear hW
   go_wp2_with (refine a0m rfl (.tmp 4) (.tmp 13) rfl rfl w.heap.size ino0 ino0 rfl rfl rfl rfl A0.out ?_;intro w5 hA hB _;have A5:=ι hA;have B5:=ι (HB0.out.trans hB);clear hA hB)
   exact b4h rfl w.heap.size ino0 rfl rfl A5.out rfl ⟨rfl,B5.out⟩
  ·have hz2:16≤i:=by omega
   have hz0:0≤i:=by omega
   go_enter Tryz.func83,Tryz.ntmps83
   go_upto_region 1 with fail
   clear hW
   go_wp2_with (refine a0m rfl (.tmp 4) (.tmp 13) rfl rfl w.heap.size ino0 ino0 rfl rfl rfl rfl A0.out ?_;intro w5 hA hB _;have A5:=ι hA;have B5:=ι (HB0.out.trans hB);clear hA hB)
   exact b4h rfl w.heap.size ino0 rfl rfl A5.out rfl ⟨rfl,B5.out⟩
set_option maxRecDepth 100000 in
set_option maxHeartbeats 1600000 in
theorem a8f(w:World)(d:Value)(ss:List (List Int))(i:Int)(h:Dk w d ss)(hi:wf64 i):Calls Tryz.prog 135 #[d,.int .i64 i] w (Rt w (aggE (entAt ss i))):=by
 have A0:=ι (a5g w)
 have hb0:=a0a (Below.refl w.heap.size w) (.cells #[.bool false,.int .i64 0,.string { data := #[] },.int .i64 0] 170)
 obtain⟨i1,i2⟩:=rows.wf_i64 hi
 by_cases hin:0≤i∧i<24
 ·have e:entAt ss i=entOfV (secAt ss (17+i)):=by rw[entAt,if_pos hin]
  rw[e]
  have HT:=ι fun w' (hb:Below w.heap.size w w')=>b6m w' d ss (17+i) (h.later hb) (WalkArith.wf_i64 (by omega))
  have hS:=a1e h.secs.1 (17+i)
  have HI:=ι fun w=>b2a (secAt ss (17+i)) hS w
  have _h4:=True.intro
  obtain⟨j1,j2⟩:=hin
  obtain⟨W,hW⟩:∃W,w.alloc (.cells #[.bool false,.int .i64 0,.string { data := #[] },.int .i64 0] 170)=W:=⟨_,rfl⟩
  rw[hW] at hb0 A0
  have HB0:=ι hb0
  generalize entOfV (secAt ss (17+i))=x at *
  generalize entOfB (secAt ss (17+i))=xb at *
  generalize secAt ss (17+i)=s at *
  clear h hS e hb0
  go_enter Tryz.func135,Tryz.ntmps135
  go_upto_region 1 with fail
  clear hW
  go_wp2_with (first|(go_at_call 137;refine(HT.out _ HB0.out).mono ?_;rintro e w1 ⟨rfl,hb⟩;have B1:=ι (a0b HB0.out hb);have A1:=ι (A0.out.later hb);clear hb)|(go_at_call 156;refine(HI.out _).mono ?_;rintro e w3 ⟨rfl,hb⟩;have B3:=ι (a0b B1.out hb);have A3:=ι (A1.out.later hb);clear hb)|(refine a1l rfl (.tmp 5) (.tmp 20) rfl rfl w3.heap.size x ent0 rfl rfl (a5g w3) ?_;intro w4 hA hB _;have hb:=(a0a (Below.refl _ w3) _).trans hB;have B4:=ι (a0b B3.out hb);have A4:=ι (A3.out.later hb);have X4:=ι hA;clear hA hB hb)|(refine a3n rfl (.tmp 5) rfl w3.heap.size rfl x X4.out ?_)|(refine a1l rfl (.tmp 4) (.tmp 22) rfl rfl w.heap.size x ent0 rfl rfl A4.out ?_;intro w5 hA hB _;have A5:=ι hA;have B5:=ι (B4.out.trans hB);clear hA hB))
  exact b0d rfl w.heap.size x rfl A5.out rfl ⟨rfl,B5.out⟩
 ·have e:entAt ss i=ent0:=by rw[entAt,if_neg hin]
  rw[e]
  clear h e
  obtain⟨W,hW⟩:∃W,w.alloc (.cells #[.bool false,.int .i64 0,.string { data := #[] },.int .i64 0] 170)=W:=⟨_,rfl⟩
  rw[hW] at hb0 A0
  have HB0:=ι hb0
  clear hb0
  by_cases hz:i<0
  ·go_enter Tryz.func135,Tryz.ntmps135
   go_upto_region 1 with fail
   clear hW
   go_wp2_with (refine a1l rfl (.tmp 4) (.tmp 13) rfl rfl w.heap.size ent0 ent0 rfl rfl A0.out ?_;intro w5 hA hB _;have A5:=ι hA;have B5:=ι (HB0.out.trans hB);clear hA hB)
   exact b0d rfl w.heap.size ent0 rfl A5.out rfl ⟨rfl,B5.out⟩
  ·have hz2:24≤i:=by omega
   have hz0:0≤i:=by omega
   go_enter Tryz.func135,Tryz.ntmps135
   go_upto_region 1 with fail
   clear hW
   go_wp2_with (refine a1l rfl (.tmp 4) (.tmp 13) rfl rfl w.heap.size ent0 ent0 rfl rfl A0.out ?_;intro w5 hA hB _;have A5:=ι hA;have B5:=ι (HB0.out.trans hB);clear hA hB)
   exact b0d rfl w.heap.size ent0 rfl A5.out rfl ⟨rfl,B5.out⟩
end lk
namespace lk
set_option maxRecDepth 100000
open Go.ChangeShapes Go.WideShapes Go.ChangeAt Go.RowKit
open rows
open sec
open dsk (a0g a0p)
open ly
theorem c4v{ss:List (List Int)}{k:Nat}(h:k<ss.length):cellsOf (ss.take (k+1))=cellsOf (ss.take k)++u8s (secAt ss (k:Int)):=by
 have e:secAt ss (k:Int)=ss[k]:=by
  rw[secAt,if_pos ⟨by omega,by omega⟩]
  simp[List.getD,h]
 rw[e,List.take_succ_eq_append_getElem h,a6z,b9e]
set_option maxRecDepth 100000 in
set_option maxHeartbeats 1600000 in
theorem c7h(w:World)(d:Value)(ss:List (List Int))(h:Dk w d ss):Calls Tryz.prog 68 #[d] w fun e w'=>∃p c,e = .returned (.slice p ss.length c)∧Rd w' 32 (.slice p ss.length c) ss.length (cellsOf ss)∧Below w.heap.size w w':=by
 have HT:=ι fun(k:Nat) (hk:k<65) w' (hb:Below w.heap.size w w')=>dread w' d ss (k:Int) (h.later hb) (a0f (by omega))
 have HSC:=ι fun(k:Nat)=>a1e h.secs.1 (k:Int)
 have hl:=h.secs.2
 obtain⟨n,hn⟩:∃n,ss.length=n:=⟨_,rfl⟩
 have HN:=ι hn
 rw[hn] at hl HT ⊢
 clear h hn
 go_enter Tryz.func68,Tryz.ntmps68
 go_wp2
 go_loopw [3,4,5,6,7] (fun lv _ _ _ iv wr=>∃(k:Nat) (p:Option Addr) (c:Nat),k≤n∧iv = .int .i64 (k:Int)∧lv = .slice p k c∧Hid (Own wr w.heap.size 65 32 (.slice p k c) k (cellsOf (ss.take k)))∧Hid (Below w.heap.size w wr)) (fun _ _ _ _ iv _=>65-(intOf iv).toNat)
 case atStart=>exact⟨0,none,0,by omega,rfl,rfl,ι (a2q _ _ _ _),ι (Below.refl _ _)⟩
 case round =>
  obtain⟨k,p,c,hk,rfl,rfl,HO,HB⟩:=hrel
  by_cases h65:k<65
  ·have h65i:(k:Int)<65:=by omega
   have HTk:=ι (HT.out k h65 wr HB.out)
   have HS:=ι (HSC.out k)
   by_cases hlt:k<n
   ·have HC:=ι (c4v (ss:=ss) (k:=k) (by rw[HN.out];exact hlt))
    rw[if_pos ⟨by omega,by omega⟩] at HTk
    generalize secAt ss (k:Int)=s at *
    go_wp2_with (first|(go_at_call 74;refine HTk.out.mono ?_;rintro e w1 ⟨rfl,hb⟩;have B1:=ι (a0b HB.out hb);have O1:=ι (a1g HO.out hb);clear hb)|(refine a0k rfl (.tmp 5) (.tmp 14) rfl rfl w1.heap.size s zero32 rfl rfl HS.out.1 (by decide) (a1n w1) ?_;intro w2 hA hB _;have hb:=(a0a (Below.refl _ w1) _).trans hB;have B2:=ι (a0b B1.out hb);have O2:=ι (a1g O1.out hb);have S2:=ι hA;clear hA hB hb)|(refine a1v rfl (.tmp 5) rfl w1.heap.size rfl s HS.out.1 S2.out ?_)|(refine a0g elem_secs (by decide) rfl (.tmp 19) rfl (u8s s) rfl (by simp[u8s,HS.out.1]) ?_)|(at_builtin;refine b7s elem_secs rfl (.tmp 18) (.tmp 20) rfl w.heap.size _ k _ rfl (O2.out.alloc _) _ 1 (u8s s) rfl (a0p _ _ _ _ (by simp[u8s,HS.out.1])) (fun u hu=>a1y .u8 _ u hu) (by omega) (by rw[World.size_alloc];have:=B2.out.size;omega) ?_;intro pa ca wa ho hba;have HOA:=ι ho;have HBA:=ι hba;clear ho hba))
    go_roundw
    case rel=>exact⟨k+1,pa,ca,by omega,by go_num,rfl,ι (by rw[HC.out];exact HOA.out),ι ((B2.out.alloc B2.out.size _).trans HBA.out)⟩
    case measure=>simp[intOf];omega
   ·obtain rfl:k=n:=by omega
    rw[if_neg (by omega)] at HTk
    generalize secAt ss (k:Int)=s at *
    go_wp2_with (first|(go_at_call 74;refine HTk.out.mono ?_;rintro e w1 ⟨rfl,hb⟩;have B1:=ι (a0b HB.out hb);have O1:=ι (a1g HO.out hb);clear hb)|(refine a0k rfl (.tmp 5) (.tmp 14) rfl rfl w1.heap.size s zero32 rfl rfl HS.out.1 (by decide) (a1n w1) ?_;intro w2 hA hB _;have hb:=(a0a (Below.refl _ w1) _).trans hB;have B2:=ι (a0b B1.out hb);have O2:=ι (a1g O1.out hb);clear hA hB hb))
    go_ret
    have:=O2.out.rd
    rw[List.take_of_length_le (by rw[HN.out];exact Nat.le_refl _)] at this
    exact⟨p,c,rfl,this,B2.out⟩
  ·obtain rfl:k=65:=by omega
   have HE:Hid (ss.take 65=ss):=ι (List.take_of_length_le (by rw[HN.out];exact hl))
   have hn65:n=65:=by omega
   go_wp2_with fail
   go_ret
   have:=HO.out.rd
   rw[HE.out] at this
   subst hn65
   exact⟨p,c,rfl,this,HB.out⟩
theorem a7i(w:World)(d:Value)(ss:List (List Int))(h:Dk w d ss):Calls Tryz.prog 24 #[d] w (Rt w (.bool (mountsB ss))):=by
 have HI:=ι (c7h w d ss h)
 have HM:=ι fun p c w' (hr:Rd w' 32 (.slice p ss.length c) ss.length (cellsOf ss))=>c4r p ss.length c ss w' h.secs.1 hr (by have:=h.secs.2;unfold maxLen;omega)
 generalize mountsB ss=mb at *
 generalize ss.length=n at *
 clear h
 go_enter Tryz.func24,Tryz.ntmps24
 go_wp2_with (first|(go_at_call 68;refine HI.out.mono ?_;rintro e w1 ⟨p1,c1,rfl,hr,hb⟩;have R1:=ι hr;have B1:=ι hb;clear hr hb)|(go_at_call 67;refine(HM.out _ _ _ R1.out).mono ?_;rintro e w2 ⟨rfl,hb⟩;have B2:=ι (a0b B1.out hb);clear hb))
 go_ret
 exact⟨rfl,B2.out⟩
end lk
namespace al
set_option maxRecDepth 100000
open Go.ChangeShapes Go.WideShapes Go.ChangeAt Go.RowKit
open rows
open sec
open ly
open lk
theorem a8o(ss:List (List Int))(z:Int):(blkL ss z).length≤1000:=by
 have h:=(c7k ss).1
 unfold blkL
 split
 ·rw[a2z,List.length_take];omega
 ·simp
end al
namespace al
set_option maxRecDepth 100000
open Go.ChangeShapes Go.WideShapes Go.ChangeAt Go.RowKit
open rows
open sec
open ly
open lk
theorem c6p{ss:List (List Int)}(hs:Secs ss)(i:Int)(h:(inoAt ss i).kind≠1):∀z∈(inoAt ss i).b,z=0:=by
 have f0:∀z∈ino0.b,z=0:=fun z hz=>by simp[ino0] at hz;exact hz
 unfold inoAt at h ⊢
 split
 ·rename_i hin
  rw[if_pos hin] at h
  rw[inoOfV] at h ⊢
  split
  ·rename_i hb
   rw[if_pos hb] at h
   rw[inoOfB,Bool.and_eq_true] at hb
   have hf:=a6w (a3q (a1e hs (1+i))) hb.1
   have hr:=hb.1
   have h02:(inoOf (secAt ss (1+i))).kind=0∨(inoOf (secAt ss (1+i))).kind=2:=by have:=hf.k0;have:=hf.k1;omega
   rw[a3d h02,Bool.and_eq_true,beq_iff_eq,beq_iff_eq] at hr
   intro z hz
   rw[hr.2] at hz
   simpa using hz
  ·exact f0
 ·exact f0
end al
namespace al
set_option maxRecDepth 100000
open Go.ChangeShapes Go.WideShapes Go.ChangeAt Go.RowKit
open rows
open sec
open ly
open lk
theorem b1f:rightE ent0=true:=by decide +kernel
theorem c5x(ss:List (List Int))(k:Int):rightE (entAt ss k)=true:=by
 unfold entAt
 split
 ·unfold entOfV
  split
  ·rename_i h
   rw[entOfB,Bool.and_eq_true] at h
   exact h.1
  ·exact b1f
 ·exact b1f
theorem c8t{ss:List (List Int)}{k:Int}(h:(entAt ss k).used=true):1≤(entAt ss k).target∧(entAt ss k).target<16:=by
 have hr:=c5x ss k
 rw[a1t h] at hr
 simp only[Bool.and_eq_true,decide_eq_true_eq] at hr
 exact⟨hr.1.1.2,hr.1.2⟩
def eU(ss:List (List Int)):Nat→List Bool
 | 0=>List.replicate 24 false
 | k+1=>if (entAt ss (k:Int)).used then (eU ss k).set k true else eU ss k
def iU(ss:List (List Int)):Nat→List Bool
 | 0=>true::List.replicate 15 false
 | k+1=>if (entAt ss (k:Int)).used then (iU ss k).set (entAt ss (k:Int)).target.toNat true else iU ss k
def bU(ss:List (List Int)):Nat→List Bool
 | 0=>marks0
 | n+1=>if takenB ss (n:Int) then setAll (bU ss n) (inoAt ss (n:Int)).b else bU ss n
theorem a7b(ss:List (List Int)):∀k,(eU ss k).length=24
 | 0=>by simp[eU]
 | k+1=>by
  rw[eU]
  split
  ·rw[List.length_set,a7b ss k]
  ·exact a7b ss k
theorem a7a(ss:List (List Int)):∀k,(iU ss k).length=16
 | 0=>by simp[iU]
 | k+1=>by
  rw[iU]
  split
  ·rw[List.length_set,a7a ss k]
  ·exact a7a ss k
theorem b1q(ss:List (List Int)):∀n,(bU ss n).length=25
 | 0=>by simp[bU,marks0]
 | n+1=>by
  rw[bU]
  split
  ·rw[b3t,b1q ss n]
  ·exact b1q ss n
theorem b5t{l:List Bool}{j k:Nat}(hj:j<l.length):(l.set k true).getD j false=(l.getD j false || decide (j=k)):=by
 by_cases e:j=k
 ·subst e;simp[List.getD,hj]
 ·have e2:k≠j:=fun h=>e h.symm
  simp[List.getD,List.getElem?_set,e2,e]
theorem d1k(ss:List (List Int))(j:Nat)(hj:j<24):∀k,(eU ss k).getD j false=(decide (j<k) && (entAt ss (j:Int)).used)
 | 0=>by rw[eU,List.getD,List.getElem?_replicate,if_pos hj];simp
 | k+1=>by
  rw[eU]
  by_cases e:j=k
  ·subst e
   cases hu:(entAt ss (j:Int)).used with
   | true=>rw[if_pos rfl,b5t (by rw[a7b];exact hj)];simp
   | false=>rw[if_neg (by decide),d1k ss j hj j,hu];simp
  ·have h1:decide (j<k+1)=decide (j<k):=decide_eq_decide.2 (by omega)
   rw[h1]
   cases hu:(entAt ss (k:Int)).used with
   | true=>rw[if_pos rfl,b5t (by rw[a7b];exact hj),d1k ss j hj k,decide_eq_false e,Bool.or_false]
   | false=>rw[if_neg (by decide),d1k ss j hj k]
theorem iU_at(ss:List (List Int))(n:Nat)(hn:n<16):∀k,(iU ss k).getD n false=(namedIn ss (n:Int) k || decide ((n:Int)=0))
 | 0=>by
  rw[iU,namedIn]
  cases n with
  | zero=>rfl
  | succ n =>
   have:decide (((n+1:Nat):Int)=0)=false:=decide_eq_false (by omega)
   rw[this,List.getD_cons_succ,List.getD,List.getElem?_replicate,if_pos (by omega)];rfl
 | k+1=>by
  rw[iU,b6s]
  cases hu:(entAt ss (k:Int)).used with
  | true =>
   have ht:=c8t hu
   have h1:decide (n=(entAt ss (k:Int)).target.toNat)=decide ((entAt ss (k:Int)).target=(n:Int)):=decide_eq_decide.2 (by omega)
   rw[if_pos rfl,b5t (by rw[a7a];exact hn),iU_at ss n hn k,h1,Bool.true_and,Bool.or_assoc,Bool.or_assoc,Bool.or_comm (decide _) (decide _)]
  | false=>rw[if_neg (by decide),iU_at ss n hn k,Bool.false_and,Bool.or_false]
theorem b4w(ss:List (List Int))(n:Nat)(hn:n<16):(iU ss 24).getD n false=takenB ss (n:Int):=by rw[iU_at ss n hn 24,takenB]
theorem eU_used(ss:List (List Int))(j:Nat)(hj:j<24):(eU ss 24).getD j false=(entAt ss (j:Int)).used:=by rw[d1k ss j hj 24,decide_eq_true hj,Bool.true_and]
theorem bU_at{ss:List (List Int)}(hs:Secs ss)(b:Nat)(h1:1≤b)(hb:b<25):∀n,(bU ss n).getD b false=hasU ss b n
 | 0=>by rw[bU,marks0,List.getD,List.getElem?_replicate,if_pos hb];rfl
 | n+1=>by
  rw[bU,c6b,liveB]
  cases ht:takenB ss (n:Int) with
  | false=>rw[if_neg (by decide),bU_at hs b h1 hb n,Bool.and_false,Bool.false_and,Bool.or_false]
  | true =>
   rw[if_pos rfl,c6j _ (fun z hz=>((c1x hs _).b z hz).1) _ b (by rw[b1q];exact hb),bU_at hs b h1 hb n,Bool.and_true]
   by_cases hk:(inoAt ss (n:Int)).kind=1
   ·rw[decide_eq_true hk,Bool.true_and]
   ·rw[decide_eq_false hk,Bool.false_and,Bool.or_false]
    have:(inoAt ss (n:Int)).b.contains (b:Int)=false:=by
     cases hc:(inoAt ss (n:Int)).b.contains (b:Int) with
     | false=>rfl
     | true =>
      have:=c6p hs (n:Int) hk _ (List.contains_iff_mem.1 hc)
      omega
    rw[this,Bool.or_false]
theorem b9j{ss:List (List Int)}(hs:Secs ss)(b:Nat)(h1:1≤b)(hb:b<25):(bU ss 16).getD b false=usedB ss b:=by
 rw[bU_at hs b h1 hb 16,usedB,show (b == 0)=false from beq_eq_false_iff_ne.2 (by omega),Bool.false_or]
theorem b3b{p q:Nat→Bool}:∀{k:Nat},(∀i,i<k→p i=q i)→cntU p k=cntU q k
 | 0,_=>rfl
 | k+1,h=>by rw[cntU,cntU,h k (by omega),b3b (k:=k) fun i hi=>h i (by omega)]
theorem a9d{p q:Nat→Bool}:∀{k:Nat},(∀i,i<k→p i=q i)→upto p k=upto q k
 | 0,_=>rfl
 | k+1,h=>by rw[upto_succ,upto_succ,h k (by omega),a9d (k:=k) fun i hi=>h i (by omega)]
def nextF(l:List Bool)(f:Nat):Option Nat:=upto (fun n=>decide (f≤n) && !l.getD n false) l.length
theorem c5s{l:List Bool}{f n:Nat}(h:nextF l f=some n):f≤n∧n<l.length∧l.getD n false=false∧∀i,f≤i→i<n→l.getD i false=true:=by
 obtain⟨h1,h2,h3⟩:=a2o h
 rw[Bool.and_eq_true,decide_eq_true_eq,Bool.not_eq_true'] at h2
 refine⟨h2.1,h1,h2.2,fun i hi hin => ?_⟩
 have:=h3 i hin
 rw[decide_eq_true hi,Bool.true_and,Bool.not_eq_false'] at this
 exact this
theorem c5l{l:List Bool}{f:Nat}(h:nextF l f=none):∀i,f≤i→i<l.length→l.getD i false=true:=fun i hi hin=>by
 have:=upto_none.1 h i hin
 rw[decide_eq_true hi,Bool.true_and,Bool.not_eq_false'] at this
 exact this
theorem c6x{l:List Bool}{f n:Nat}(h1:f≤n)(h2:n<l.length)(h3:l.getD n false=false)(h4:∀i,f≤i→i<n→l.getD i false=true):nextF l f=some n:=by
 refine b5b (upto_none.2 fun i hi => ?_) (by rw[decide_eq_true h1,h3];rfl) _ h2
 by_cases e:f≤i
 ·rw[h4 i e hi];simp
 ·rw[decide_eq_false e];rfl
theorem c5e{l:List Bool}{f:Nat}(h:∀i,f≤i→i<l.length→l.getD i false=true):nextF l f=none :=
 upto_none.2 fun i hi=>by
  by_cases e:f≤i
  ·rw[h i e hi];simp
  ·rw[decide_eq_false e];rfl
theorem d2b(ss:List (List Int)):nextF (iU ss 24) 0=frI ss:=by
 rw[nextF,a7a,frI]
 exact a9d fun i hi=>by rw[b4w ss i hi,decide_eq_true (Nat.zero_le i),Bool.true_and]
theorem d1i(ss:List (List Int)):nextF (eU ss 24) 0=frE ss:=by
 rw[nextF,a7b,frE]
 exact a9d fun i hi=>by rw[eU_used ss i hi,decide_eq_true (Nat.zero_le i),Bool.true_and]
theorem b6h{ss:List (List Int)}{f:Nat}:∀{n:Nat},f≤n→(∀i,f≤i→i<n→usedB ss i=true)→frU ss n=frU ss f
 | 0,h,_=>by
   obtain rfl:f=0:=by omega
   rfl
 | n+1,h,hu=>by
  by_cases e:f=n+1
  ·rw[e]
  ·rw[frU,hu n (by omega) (by omega),if_pos rfl,b6h (n:=n) (by omega) fun i hi hin=>hu i hi (by omega)]
theorem d1o{ss:List (List Int)}(hs:Secs ss){f n:Nat}(hf:1≤f)(h:nextF (bU ss 16) f=some n):f≤n∧n<25∧frU ss (n+1)=frU ss f++[n]:=by
 obtain⟨h1,h2,h3,h4⟩:=c5s h
 rw[b1q] at h2
 refine⟨h1,h2,?_⟩
 rw[b9j hs n (by omega) h2] at h3
 rw[frU,h3,if_neg (by decide),b6h h1 fun i hi hin=>by rw[← b9j hs i (by omega) (by omega)];exact h4 i hi hin]
theorem blk_end{ss:List (List Int)}(hs:Secs ss){f:Nat}(hf:1≤f)(hf2:f≤25)(h:nextF (bU ss 16) f=none):frU ss 25=frU ss f:=by
 have h4:=c5l h
 rw[b1q] at h4
 exact b6h hf2 fun i hi hin=>by rw[← b9j hs i (by omega) hin];exact h4 i hi hin
theorem c9q(ss:List (List Int)):cntU (fun n=>(iU ss 24).getD (0+n) false) 16=cntI ss:=b3b fun i hi=>by rw[Nat.zero_add];exact b4w ss i hi
end al
end Go.Proofs.YtpnahagiojelbaaGreatDoor
