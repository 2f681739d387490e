/- What ViewBack wants, part 21. -/
import Derived.Test.YtjedjkjhodgidaaGreatDoorViewBackA
import Derived.Test.YtjedjkjhodgidaaGreatDoorViewBackB
import Derived.Test.YtjedjkjhodgidaaGreatDoorViewBackD
import Derived.Test.YtjedjkjhodgidaaGreatDoorViewBackG
import Derived.Test.YtjedjkjhodgidaaGreatDoorViewBackL
import Derived.Test.YtjedjkjhodgidaaGreatDoorViewBackM
import Derived.Test.YtjedjkjhodgidaaGreatDoorViewBackO
import Derived.Test.YtjedjkjhodgidaaGreatDoorViewBackQ
import Derived.Test.YtjedjkjhodgidaaGreatDoorViewBackR
import Derived.Test.YtjedjkjhodgidaaGreatDoorViewBackS
import Derived.Test.YtjedjkjhodgidaaGreatDoorViewBackT
import Derived.DeepKeys5
import Derived.DeepKeys3
import Derived.Outline
set_option linter.unusedVariables false
set_option linter.unusedSimpArgs false
namespace Go.Proofs.YtjedjkjhodgidaaGreatDoor
namespace lk
set_option maxRecDepth 100000
open Go.ChangeShapes Go.WideShapes Go.ChangeAt Go.RowKit
open rows
open sec
open dsk (Wr.ok wf64 St Wr CA seenOf readOf readR writeR asks grow cread uread a8l a0s a2n a1d Keeps.of_below a3m)
open ly
def Dk(w:World)(d:Value)(ss:List (List Int)):Prop:=(d = .pointer none∧ss=[])∨∃F st,CA w F d st∧st.fine∧seenOf st=ss
theorem CA.later'{w w':World}{F:Nat→Prop}{d:Value}{st:St}(h:CA w F d st)(hb:Below w.heap.size w w'):CA w' F d st:=by
 obtain⟨z,g,vs,vw,vn,vl,vf,hd,h⟩:=h
 exact⟨z,g,vs,vw,vn,vl,vf,hd,a1d h (Keeps.of_below hb)⟩
theorem Dk.later{w w':World}{d:Value}{ss:List (List Int)}(h:Dk w d ss)(hb:Below w.heap.size w w'):Dk w' d ss:=by
 rcases h with h|⟨F,st,h1,h2,h3⟩
 ·exact Or.inl h
 ·exact Or.inr ⟨F,st,CA.later' h1 hb,h2,h3⟩
theorem Dk.secs{w:World}{d:Value}{ss:List (List Int)}(h:Dk w d ss):Secs ss∧ss.length≤65:=by
 rcases h with⟨_,rfl⟩|⟨F,st,h1,h2,rfl⟩
 ·exact⟨fun s hs=>(by cases hs),Nat.zero_le _⟩
 ·exact⟨a2n h2,by rw[a0s];exact h2.n1⟩
def secAt(ss:List (List Int))(i:Int):List Int:=if 0≤i∧i<(ss.length:Int) then ss.getD i.toNat zero32 else zero32
theorem a0t{ss:List (List Int)}(h:Secs ss)(i:Int):Sec (secAt ss i):=by
 unfold secAt
 split
 ·rename_i hi
  have hl:i.toNat<ss.length:=by omega
  rw[show ss.getD i.toNat zero32=ss[i.toNat] by simp[List.getD,hl]]
  exact h _ (List.getElem_mem hl)
 ·exact a1n
theorem dread(w:World)(d:Value)(ss:List (List Int))(i:Int)(h:Dk w d ss)(hi:wf64 i) :
  Calls Tryz.prog 53 #[d,.int .i64 i] w (Rt w (.tuple #[agg (secAt ss i),.int .i64 (if 0≤i∧i<(ss.length:Int) then 0 else 1)])):=by
 rcases h with⟨rfl,rfl⟩|⟨F,st,h1,h2,rfl⟩
 ·have e:¬(0≤i∧i<(([]:List (List Int)).length:Int)):=by simp;try omega
  rw[secAt,if_neg e,if_neg e]
  exact uread (Or.inl rfl) i
 ·have h3:=cread w F d st i h1 h2 hi
  rw[readR] at h3
  rw[secAt,a0s]
  by_cases hin:0≤i∧i<(st.safe.length:Int)
  ·rw[if_pos hin] at h3
   rw[if_pos hin,if_pos hin]
   have hk:i.toNat<st.safe.length:=by omega
   have e:=a8l i.toNat st.wait st.safe (fun x hx=>(h2.pos x hx).1) hk
   have e2:(seenOf st).getD i.toNat zero32=readOf st i.toNat:=by
    have hl:i.toNat<(seenOf st).length:=by rw[a0s];exact hk
    have h1:some ((seenOf st)[i.toNat])=some (readOf st i.toNat):=(List.getElem?_eq_getElem _).symm.trans e
    rw[List.getD,List.getElem?_eq_getElem hl]
    exact Option.some.inj h1
   rw[e2]
   exact h3
  ·rw[if_neg hin] at h3
   rw[if_neg hin,if_neg hin]
   exact h3
def wr1(l:List (List Int))(x:Wr):List (List Int):=if 0≤x.pos∧x.pos<(l.length:Int) then l.set x.pos.toNat x.s else l
def over(ss:List (List Int))(ws:List Wr)(i:Nat):List (List Int):=(ws.take i).foldl wr1 ss
theorem b8d{ss:List (List Int)}{ws:List Wr}{i:Nat}(h:i<ws.length):over ss ws (i+1)=wr1 (over ss ws i) ws[i]:=by
 rw[over,List.take_succ_eq_append_getElem h,List.foldl_append];rfl
def withL(ss:List (List Int))(ws:List Wr):List (List Int):=if 1≤ss.length∧ss.length≤65 then over ss ws ws.length else []
structure WAt (W:World) (ss:List (List Int)) (ws:List Wr) (i:Nat) (d:Value) (w:World) (F:Nat→Prop) (st:St):Prop where
 code:CA w F d st
 good:st.good i
 bad:st.bad=[]
 seen:seenOf st=over ss ws i
 inF:∀b,F b→W.heap.size≤b∧b<w.heap.size
 below:Below W.heap.size W w
theorem WAt.later{W w w':World}{ss:List (List Int)}{ws:List Wr}{i:Nat}{d:Value}{F:Nat→Prop}{st:St}(h:WAt W ss ws i d w F st)(hb:Below w.heap.size w w'):WAt W ss ws i d w' F st :=
 ⟨CA.later' h.code hb,h.good,h.bad,h.seen,fun b hF=>by have:=h.inF b hF;have:=hb.size;omega,a0a h.below hb⟩
theorem WAt.done{W w w':World}{ss:List (List Int)}{ws:List Wr}{i:Nat}{d:Value}{F:Nat→Prop}{st:St}(h:WAt W ss ws i d w F st)(hi:i<ws.length)(hok:∀x∈ws,x.ok)
  (hc:CA w' (grow F w w') d (writeR st ws[i].pos ws[i].s ws[i].kind ws[i].id).2) (ht:dsk.Touch F w w'):WAt W ss ws (i+1) d w' (grow F w w') (writeR st ws[i].pos ws[i].s ws[i].kind ws[i].id).2:=by
 have hz:=ht.size
 have hbz:=h.below.size
 have hsl:(over ss ws i).length=st.safe.length:=by rw[← h.seen,a0s]
 have hx:=hok _ (List.getElem_mem hi)
 have hF2:∀b,grow F w w' b→W.heap.size≤b∧b<w'.heap.size:=fun b hF=>by
  rcases hF with hF|hF
  ·have:=h.inF b hF;omega
  ·omega
 have hb2:=h.below.trans (ht.below hbz fun i hi=>(h.inF i hi).1)
 have hna:asks st=false:=by unfold asks;rw[h.bad];simp
 have hg:=h.good
 have hov:=b8d (ss:=ss) hi
 generalize ws[i]=x at *
 unfold writeR at hc ⊢
 by_cases hin:0≤x.pos∧x.pos<(st.safe.length:Int)
 ·rw[if_pos hin,if_neg (by rw[hna];decide)] at hc ⊢
  refine⟨hc,⟨hg.ss,hg.n1,fun y hy => ?_,fun e he => ?_,?_,?_,hg.bn,⟨hg.ep.1,?_⟩,⟨?_,?_⟩⟩,h.bad,?_,hF2,hb2⟩
  ·rcases List.mem_append.1 hy with hy|hy
   ·exact hg.ws y hy
   ·rw[List.mem_singleton.1 hy];exact⟨hx.1,hin⟩
  ·rcases List.mem_append.1 he with he|he
   ·exact hg.es e he
   ·rw[List.mem_singleton.1 he];exact⟨hx.1,Nat.zero_le _⟩
  ·have:=hg.wn;simp;omega
  ·have:=hg.ln;simp;omega
  ·have:=hg.ep.2;show st.ep≤((i+1:Nat):Int);omega
  ·have:=hg.asked.1;show 0≤st.asked+1;omega
  ·have:=hg.asked.2;show st.asked+1≤((i+1:Nat):Int);omega
  ·have e:seenOf { st with asked:=st.asked+1,wait:=st.wait++[⟨x.pos,x.s,x.kind,x.id,st.ep⟩],log:=st.log++[(1,⟨x.pos,x.s,x.kind,x.id,st.ep⟩,[])] }=(seenOf st).set x.pos.toNat x.s:=a3m st ⟨x.pos,x.s,x.kind,x.id,st.ep⟩
   exact e.trans (by rw[h.seen,hov,wr1,hsl,if_pos hin])
 ·rw[if_neg hin] at hc ⊢
  refine⟨hc,⟨hg.ss,hg.n1,hg.ws,hg.es,?_,?_,hg.bn,⟨hg.ep.1,?_⟩,⟨?_,?_⟩⟩,h.bad,?_,hF2,hb2⟩
  ·have:=hg.wn;show st.wait.length≤i+1;omega
  ·have:=hg.ln;show st.log.length≤i+1;omega
  ·have:=hg.ep.2;show st.ep≤((i+1:Nat):Int);omega
  ·have:=hg.asked.1;show 0≤st.asked+1;omega
  ·have:=hg.asked.2;show st.asked+1≤((i+1:Nat):Int);omega
  ·exact h.seen.trans (by rw[hov,wr1,hsl,if_neg hin])
theorem WAt.dk{W w:World}{ss:List (List Int)}{ws:List Wr}{i:Nat}{d:Value}{F:Nat→Prop}{st:St}(h:WAt W ss ws i d w F st)(hi:i≤900):Dk w d (over ss ws i):=Or.inr ⟨F,st,h.code,h.good.fine hi,h.seen⟩
theorem WAt.start{W w:World}{ss:List (List Int)}{ws:List Wr}{d:Value}(hs:Secs ss)(hl:ss.length≤65)(hb:Below W.heap.size W w)(hc:CA w (fun b=>W.heap.size≤b∧b<w.heap.size) d (dsk.st0 ss)):WAt W ss ws 0 d w (fun b=>W.heap.size≤b∧b<w.heap.size) (dsk.st0 ss) :=
 ⟨hc,⟨hs,hl,fun x hx=>(by cases hx),fun x hx=>(by cases hx),Nat.le_refl _,Nat.le_refl _,Nat.zero_le _,⟨Int.le_refl _,Int.le_refl _⟩,⟨Int.le_refl _,Int.le_refl _⟩⟩,rfl,rfl,fun b hb=>hb,hb⟩
end lk
namespace lk
set_option maxRecDepth 100000
open Go.ChangeShapes Go.WideShapes Go.ChangeAt Go.RowKit
open rows
open sec
open dsk (Wr.ok Wr.c Wr.c_len Wr a5f a0o b2z wrsC)
open ly
def WD(W:World)(ss:List (List Int))(ws:List Wr)(i:Nat)(d:Value)(w:World)(F:Nat→Prop):Prop :=
 (d = .pointer none∧¬(1≤ss.length∧ss.length≤65)∧(∀b,¬F b)∧Below W.heap.size W w)∨((1≤ss.length∧ss.length≤65)∧∃st,WAt W ss ws i d w F st)
theorem WD.later{W w w':World}{ss:List (List Int)}{ws:List Wr}{i:Nat}{d:Value}{F:Nat→Prop}(h:WD W ss ws i d w F)(hb:Below w.heap.size w w'):WD W ss ws i d w' F:=by
 rcases h with⟨h1,h2,h3,h4⟩|⟨h1,st,h2⟩
 ·exact Or.inl ⟨h1,h2,h3,a0a h4 hb⟩
 ·exact Or.inr ⟨h1,st,h2.later hb⟩
theorem WD.below{W w:World}{ss:List (List Int)}{ws:List Wr}{i:Nat}{d:Value}{F:Nat→Prop}(h:WD W ss ws i d w F):Below W.heap.size W w:=by
 rcases h with⟨_,_,_,h⟩|⟨_,st,h⟩
 ·exact h
 ·exact h.below
theorem WD.inF{W w:World}{ss:List (List Int)}{ws:List Wr}{i:Nat}{d:Value}{F:Nat→Prop}(h:WD W ss ws i d w F)(b:Nat)(hF:F b):W.heap.size≤b:=by
 rcases h with⟨_,_,h,_⟩|⟨_,st,h⟩
 ·exact absurd hF (h b)
 ·exact(h.inF b hF).1
theorem WD.dk{W w:World}{ss:List (List Int)}{ws:List Wr}{d:Value}{F:Nat→Prop}(h:WD W ss ws ws.length d w F)(hl:ws.length≤900):Dk w d (withL ss ws):=by
 rcases h with⟨rfl,h2,_,_⟩|⟨h1,st,h⟩
 ·rw[withL,if_neg h2];exact Or.inl ⟨rfl,rfl⟩
 ·rw[withL,if_pos h1];exact h.dk hl
theorem dwrite{W w:World}{ss:List (List Int)}{ws:List Wr}{i:Nat}{d:Value}{F:Nat→Prop}(h:WD W ss ws i d w F)(hi:i<ws.length)(hl:i≤900)(hok:∀x∈ws,x.ok) :
  Calls Tryz.prog 37 #[d,.int .i64 ws[i].pos,agg ws[i].s,.agg #[.int .i64 ws[i].kind,.int .i64 ws[i].id]] w fun e w'=>∃r F',e = .returned (.int .i64 r)∧WD W ss ws (i+1) d w' F'∧dsk.Touch F w w':=by
 obtain⟨o1,o2,o3,o4,o5⟩:=hok _ (List.getElem_mem hi)
 rcases h with⟨rfl,h2,h3,h4⟩|⟨h1,st,h⟩
 ·refine(dsk.uwrite (Or.inl rfl) _ _ _ _).mono ?_
  rintro e w' ⟨rfl,hb⟩
  exact⟨_,F,rfl,Or.inl ⟨rfl,h2,h3,a0a h4 hb⟩,dsk.Touch.of_below hb⟩
 ·refine(dsk.cwrite w F d st ws[i].pos ws[i].s ws[i].kind ws[i].id h.code (h.good.fine hl) o2 o1 o3 o4).mono ?_
  rintro e w' ⟨rfl,hc,ht⟩
  exact⟨_,_,rfl,Or.inr ⟨h1,_,h.done hi hok hc ht⟩,ht⟩
theorem dfrom(w:World)(p:Option Addr)(n c:Nat)(ss:List (List Int))(ws:List Wr)(hs:Secs ss)(h:Rd w 32 (.slice p n c) n (cellsOf ss))(hn:n≤200) :
  Calls Tryz.prog 36 #[.slice p n c] w fun e w'=>∃d r F,e = .returned (.tuple #[d,.int .i64 r])∧WD w ss ws 0 d w' F:=by
 have hl:ss.length=n:=by have h:=h.cells;rw[a0p hs] at h;omega
 by_cases h1:1≤n∧n≤65
 ·refine(dsk.b5r w p n c ss hs h h1.1 h1.2).mono ?_
  rintro e w' ⟨ad,rfl,hc,hb⟩
  exact⟨_,_,_,rfl,Or.inr ⟨by rw[hl];exact h1,_,WAt.start hs (by omega) hb hc⟩⟩
 ·refine(dsk.b9z w p n c hn (by omega)).mono ?_
  rintro e w' ⟨rfl,hb⟩
  exact⟨_,_,fun _=>False,rfl,Or.inl ⟨rfl,by rw[hl];exact h1,fun _ h=>h,hb⟩⟩
theorem wr_tagR{w:World}{b o:Nat}{x:Wr}(hs:Sec x.s)(h:w.rangeAt b o x.c):w.rangeAt b (o+33) [.int .i64 x.kind,.int .i64 x.id]:=fun j u hj=>by
 obtain⟨_,_,c1,c2,_⟩:=a5f hs h
 match j,hj with
 | 0,hj=>simp at hj;subst hj;simpa using c1
 | 1,hj=>simp at hj;subst hj;simpa using c2
set_option maxRecDepth 100000 in
set_option maxHeartbeats 1600000 in
theorem c0l(p:Option Addr)(n c:Nat)(ss:List (List Int))(p2:Option Addr)(m c2:Nat)(ws:List Wr)(w:World)(h1:Rd w 32 (.slice p n c) n (cellsOf ss))(hs:Secs ss)(hn:n≤200)
  (h2:Rd w 36 (.slice p2 m c2) m (wrsC ws)) (hok:∀x∈ws,x.ok) (hm:m≤40) :
  Calls Tryz.prog 10 #[.slice p n c,.slice p2 m c2] w fun e w'=>∃d,e = .returned d∧Dk w' d (withL ss ws)∧Below w.heap.size w w':=by
 have H1:=ι (dfrom w p n c ss ws hs h1 hn)
 have H2:=ι h2
 have HOK:=ι hok
 have HLL:=ι (dsk.Rd.count Wr.c h2 (fun x hx=>Wr.c_len (hok x hx).1) (by decide))
 have hmi:(m:Int)≤40:=by omega
 clear h1 hs h2 hok
 go_enter Tryz.func10,Tryz.ntmps10
 go_wp2_with (go_at_call 36;refine H1.out.mono ?_;rintro e w1 ⟨d,r,F0,rfl,hwd⟩;have HWD0:=ι hwd;clear hwd)
 go_loopw [7] (fun iv wr=>∃(i:Nat) (F:Nat→Prop),i≤m∧iv = .int .i64 (i:Int)∧Hid (WD w ss ws i d wr F)) (fun iv _=>m-(intOf iv).toNat)
 case atStart=>exact⟨0,_,by omega,rfl,HWD0⟩
 case round =>
  clear HWD0
  obtain⟨i,F,hi,rfl,HKA⟩:=hrel
  by_cases him:i<m
  ·have him1:(i:Int)<m:=by omega
   have hil:i<ws.length:=by rw[HLL.out];exact him
   obtain⟨b2,o2,rfl,hcc2,hcm2,hb2,_,HR2⟩:=dsk.Rd.chunk Wr.c H2.out (fun x hx=>Wr.c_len (HOK.out x hx).1) (by decide) him
   have hmem:=List.getElem_mem hil
   have HAO:=ι (HOK.out _ hmem).1
   have HWR:=ι (Rd.rangeLater (HR2 i hil) hb2 HKA.out.below)
   have HDW:=ι fun w' (hw:WD w ss ws i d w' F)=>dwrite hw hil (by omega) HOK.out
   generalize ws[i]=x at *
   clear HR2 hmem
   have hw4:=HKA.out.below.size
   have hbw:b2<wr.heap.size:=by omega
   go_wp2_with fail
   have HKD:=ι (HKA.out.later ((Below.refl wr.heap.size wr).drew))
   have hnF:¬F b2:=fun hF=>by have:=HKA.out.inF _ hF;omega
   have hbd:b2<wr.drew.heap.size:=hbw
   have HWD:Hid (wr.drew.rangeAt b2 (o2+i * 36) x.c):=ι (Rd.rangeLater HWR.out hbw ((Below.refl wr.heap.size wr).drew))
   refine wp_region_held_drew (S:=dsk.Touch F wr.drew) (by kernel_rfl) (dsk.Touch.refl _ _) (fun hH0 => ?_)
   refine tk 0 rfl ?_
   refine tk 1 rfl ?_
   refine tk 2 rfl ?_
   refine tk 3 rfl ?_
   refine tk 4 rfl ?_
   refine tkv 5 rfl (a0o (by rfl) 3 _ Tryz.underlying3 rfl _ rfl b2 (o2+i * 36) rfl (.int .i64 x.pos) (fun w' hw=>(a5f HAO.out (dsk.Touch.range hw hbd hnF HWD.out)).1)) ?_
   refine tk 6 rfl ?_
   refine tk 7 rfl ?_
   refine tk 8 rfl ?_
   refine tk 9 rfl ?_
   refine tkv 10 rfl (b2y (by rfl) _ rfl b2 (o2+i * 36+1) rfl x.s HAO.out.1 (fun w' hw=>(a5f HAO.out (dsk.Touch.range hw hbd hnF HWD.out)).2.1)) ?_
   refine tk 11 rfl ?_
   refine tk 12 rfl ?_
   refine tk 13 rfl ?_
   refine tk 14 rfl ?_
   refine tkv 15 rfl (b2z (by rfl) _ rfl b2 (o2+i * 36+33) rfl x.kind x.id (fun w' hw=>wr_tagR HAO.out (dsk.Touch.range hw hbd hnF HWD.out))) ?_
   refine rd 16 rfl (fun K hK => ?_)
   go_simp
   refine(HDW.out _ HKD.out).mono ?_
   rintro e v16 ⟨r16,F16,rfl,hc16,ht16⟩
   have HC16:=ι hc16
   have HT16:=ι ht16
   clear hc16 ht16
   dsimp only
   refine hK.out _ _ ?_ (fun hHeld => ?_)
   ·exact HT16.out
   clear hK K
   try simp only[Act.put,List.setIfInBounds_toArray,List.set_cons_zero,List.set_cons_succ]
   refine wpAnyH_done (by kernel_rfl) ?_ _
   clear hHeld hH0
   go_wp2_with fail
   exact⟨⟨i+1,_,by omega,by go_num,HC16⟩,by simp[intOf];omega⟩
  ·obtain rfl:i=m:=by omega
   have hfin:=HKA.out
   rw[← HLL.out] at hfin
   have HF1:=ι (hfin.dk (by rw[HLL.out];omega))
   have HF2:=ι hfin.below
   clear hfin HKA
   go_wp2_with fail
   go_ret
   exact⟨d,rfl,HF1.out,HF2.out⟩
end lk
namespace lk
set_option maxRecDepth 100000
open Go.ChangeShapes Go.WideShapes Go.ChangeAt Go.RowKit
open rows
open sec
open ly
theorem c0d{ss:List (List Int)}{k:Nat}(h:k<ss.length):secAt ss (k:Int)=ss[k]:=by
 rw[secAt,if_pos (by omega)];simp[List.getD,h]
theorem b5a{ss:List (List Int)}{k:Nat}(h:ss.length≤k):secAt ss (k:Int)=zero32:=by rw[secAt,if_neg (by omega)]
theorem b1l(w:World):AtI (w.alloc (.cells #[.int .i64 0,.int .i64 0,.int .i64 0,.int .i64 0,.int .i64 0,.int .i64 0] 50)) w.heap.size ino0:=a4n w ino0
theorem b5u(w:World):AtE (w.alloc (.cells #[.bool false,.int .i64 0,.string { data := #[] },.int .i64 0] 119)) w.heap.size ent0:=a4o w ent0
theorem a8n{fn:Func}{p:Tmp}{R:Ending→World→Prop}{a:Act}{w:World}(h:fn.results = #[.cell p 50])(g:Nat)(x:Ino)(hp:a.tmps.getD p undef = .pointer (some ⟨g,0,none⟩))(hx:x.b.length=4)(hg:AtI w g x)
  (hd:a.defers=[]) (hR:R (.returned (aggI x)) w):bodyPost Tryz.prog fn R .ret a w :=
 bodyPost_ret (results_cell_row h a.tmps w g _ _ _ _ hp hg a5r rfl (by rw[a3v];simp[a3p hx])) hd hR
theorem a8u{fn:Func}{p:Tmp}{R:Ending→World→Prop}{a:Act}{w:World}(h:fn.results = #[.cell p 119])(g:Nat)(x:Ent)(hp:a.tmps.getD p undef = .pointer (some ⟨g,0,none⟩))(hg:AtE w g x)
  (hd:a.defers=[]) (hR:R (.returned (aggE x)) w):bodyPost Tryz.prog fn R .ret a w :=
 bodyPost_ret (results_cell_row h a.tmps w g _ _ _ _ hp hg b0x rfl (by rw[a3t];rfl)) hd hR
def inoAt(ss:List (List Int))(i:Int):Ino:=if 0≤i∧i<16 then inoOfV (secAt ss (1+i)) else ino0
def entAt(ss:List (List Int))(k:Int):Ent:=if 0≤k∧k<24 then entOfV (secAt ss (17+k)) else ent0
theorem a2i{ss:List (List Int)}(hs:Secs ss)(i:Int):(inoAt ss i).b.length=4:=by
 unfold inoAt
 split
 ·exact a6d (a0t hs _)
 ·rfl
end lk
namespace lk
set_option maxRecDepth 100000
open Go.ChangeShapes Go.WideShapes Go.ChangeAt Go.RowKit
def upto(p:Nat→Bool)(k:Nat):Option Nat:=(List.range k).find? p
theorem upto_succ(p:Nat→Bool)(k:Nat):upto p (k+1)=(upto p k).or (if p k then some k else none):=by
 rw[upto,List.range_succ,List.find?_append]
 cases h:p k<;>simp[upto,h]
theorem b2x{p:Nat→Bool}{k:Nat}(h:upto p k=none)(hk:p k=true):∀m,k<m→upto p m=some k
 | 0,hm=>by omega
 | m+1,hm=>by
  rw[upto_succ]
  by_cases e:k=m
  ·subst e;rw[h,hk];rfl
  ·rw[b2x h hk m (by omega)];rfl
theorem upto_none{p:Nat→Bool}{k:Nat}:upto p k=none↔∀i,i<k→p i=false:=by
 simp[upto,List.find?_eq_none]
theorem a5o{p:Nat→Bool}{k i:Nat}(h:upto p k=some i):i<k∧p i=true∧∀j,j<i→p j=false:=by
 induction k with
 | zero=>cases h
 | succ k ih =>
  rw[upto_succ] at h
  cases hu:upto p k with
  | some j =>
   rw[hu] at h
   obtain rfl:j=i:=Option.some.inj h
   obtain⟨h1,h2,h3⟩:=ih hu
   exact⟨by omega,h2,h3⟩
  | none =>
   rw[hu] at h
   cases hk:p k with
   | false=>rw[hk] at h;cases h
   | true =>
    rw[hk] at h
    obtain rfl:k=i:=Option.some.inj h
    exact⟨by omega,hk,upto_none.1 hu⟩
def optV(o:Option Nat):Value := .tuple #[.int .i64 ((o.getD 0:Nat):Int),.bool o.isSome]
end lk
namespace pa
set_option maxRecDepth 100000
end pa
namespace al
end al
namespace lk
open Go.ChangeShapes Go.WideShapes Go.ChangeAt Go.RowKit
open rows
open sec
open ly
open pa
def standB(ss:List (List Int))(k:Nat):Bool:=(entAt ss (k:Int)).used && !decide ((inoAt ss (entAt ss (k:Int)).target).kind=0)
def inB(ss:List (List Int))(d:Int)(nm:ByteArray)(k:Nat):Bool:=standB ss k && decide ((entAt ss (k:Int)).parent=d) && decide ((entAt ss (k:Int)).name=nm)
def findO(ss:List (List Int))(d:Int)(nm:ByteArray):Option Nat:=upto (inB ss d nm) 24
theorem b2p{ss:List (List Int)}(hs:Secs ss)(k:Int):0≤(entAt ss k).parent∧(entAt ss k).parent≤255∧0≤(entAt ss k).target∧(entAt ss k).target≤255:=by
 have f0:0≤ent0.parent∧ent0.parent≤255∧0≤ent0.target∧ent0.target≤255:=by decide
 unfold entAt
 split
 ·have hS:=a0t hs (17+k)
  rw[entOfV]
  split
  ·have h1:=a0v hS 1
   have h2:=a0v hS 2
   simp only[entC]
   omega
  ·exact f0
 ·exact f0
theorem b0j{l:List Int}(h:l.length=4):∃a b c d,l=[a,b,c,d]:=by
 match l,h with
 | [a,b,c,d],_=>exact⟨a,b,c,d,rfl⟩
theorem fieldI0(x:Ino)(h:x.b.length=4)(w:World):(Instr.field 50 (aggI x) 0).run Tryz.prog w = .ok (.int .i64 x.kind) w:=by
 obtain⟨kd,sz,bl⟩:=x
 obtain⟨a,b,c,d,rfl⟩:=b0j h
 kernel_rfl
theorem fieldE3(x:Ent)(w:World):(Instr.field 119 (aggE x) 3).run Tryz.prog w = .ok (.int .i64 x.target) w:=by
 obtain⟨u,pa,nm,tg⟩:=x
 kernel_rfl
theorem b9t{ss:List (List Int)}{d:Int}{nm:ByteArray}{k:Nat}(h:findO ss d nm=some k):k<24:=(a5o h).1
end lk
namespace lk
set_option maxRecDepth 100000
open Go.ChangeShapes Go.WideShapes Go.ChangeAt Go.RowKit
open rows
open sec
open dsk (wf64)
open ly
set_option maxRecDepth 100000 in
set_option maxHeartbeats 1600000 in
theorem a9q(w:World)(d:Value)(ss:List (List Int))(i:Int)(h:Dk w d ss)(hi:wf64 i):Calls Tryz.prog 59 #[d,.int .i64 i] w (Rt w (agg (secAt ss i))):=by
 have HT:=ι fun w' (hb:Below w.heap.size w w')=>dread w' d ss i (h.later hb) hi
 have hS:=a0t h.secs.1 i
 have A0:=ι (a1c w)
 have hb0:=a0b (Below.refl w.heap.size w) (.cells #[Value.int IntKind.u8 0,Value.int IntKind.u8 0,Value.int IntKind.u8 0,Value.int IntKind.u8 0,Value.int IntKind.u8 0,Value.int IntKind.u8 0,Value.int IntKind.u8 0,Value.int IntKind.u8 0,Value.int IntKind.u8 0,Value.int IntKind.u8 0,Value.int IntKind.u8 0,Value.int IntKind.u8 0,Value.int IntKind.u8 0,Value.int IntKind.u8 0,Value.int IntKind.u8 0,Value.int IntKind.u8 0,Value.int IntKind.u8 0,Value.int IntKind.u8 0,Value.int IntKind.u8 0,Value.int IntKind.u8 0,Value.int IntKind.u8 0,Value.int IntKind.u8 0,Value.int IntKind.u8 0,Value.int IntKind.u8 0,Value.int IntKind.u8 0,Value.int IntKind.u8 0,Value.int IntKind.u8 0,Value.int IntKind.u8 0,Value.int IntKind.u8 0,Value.int IntKind.u8 0,Value.int IntKind.u8 0,Value.int IntKind.u8 0] 74)
 obtain⟨W,hW⟩:∃W,w.alloc (.cells #[Value.int IntKind.u8 0,Value.int IntKind.u8 0,Value.int IntKind.u8 0,Value.int IntKind.u8 0,Value.int IntKind.u8 0,Value.int IntKind.u8 0,Value.int IntKind.u8 0,Value.int IntKind.u8 0,Value.int IntKind.u8 0,Value.int IntKind.u8 0,Value.int IntKind.u8 0,Value.int IntKind.u8 0,Value.int IntKind.u8 0,Value.int IntKind.u8 0,Value.int IntKind.u8 0,Value.int IntKind.u8 0,Value.int IntKind.u8 0,Value.int IntKind.u8 0,Value.int IntKind.u8 0,Value.int IntKind.u8 0,Value.int IntKind.u8 0,Value.int IntKind.u8 0,Value.int IntKind.u8 0,Value.int IntKind.u8 0,Value.int IntKind.u8 0,Value.int IntKind.u8 0,Value.int IntKind.u8 0,Value.int IntKind.u8 0,Value.int IntKind.u8 0,Value.int IntKind.u8 0,Value.int IntKind.u8 0,Value.int IntKind.u8 0] 74)=W:=⟨_,rfl⟩
 rw[hW] at hb0 A0
 have HB0:=ι hb0
 have HS:=ι hS
 generalize (if 0≤i∧i<(ss.length:Int) then (0:Int) else 1)=r at HT
 generalize secAt ss i=s at *
 clear h hS hb0 hi
 go_enter Tryz.func59,Tryz.ntmps59
 go_upto_region 1 with fail
 clear hW
 go_wp2_with (first|(go_at_call 53;refine(HT.out _ HB0.out).mono ?_;rintro e w1 ⟨rfl,hb⟩;have B1:=ι (a0a HB0.out hb);have A1:=ι (A0.out.later hb);clear hb)|(refine a0g rfl (.tmp 5) (.tmp 11) rfl rfl w1.heap.size s zero32 rfl rfl HS.out.1 (by decide) (a1c w1) ?_;intro w2 hA hB _;have hb:=(a0b (Below.refl _ w1) _).trans hB;have B2:=ι (a0a B1.out hb);have A2:=ι (A1.out.later hb);have S2:=ι hA;clear hA hB hb)|(refine a5q rfl (.tmp 5) rfl w1.heap.size rfl s HS.out.1 S2.out ?_)|(refine a0g rfl (.tmp 4) (.tmp 13) rfl rfl w.heap.size s zero32 rfl rfl HS.out.1 (by decide) A2.out ?_;intro w5 hA hB _;have A5:=ι hA;have B5:=ι (B2.out.trans hB);clear hA hB))
 exact b1d rfl w.heap.size s rfl HS.out.1 A5.out rfl ⟨rfl,B5.out⟩
set_option maxRecDepth 100000 in
set_option maxHeartbeats 1600000 in
theorem a5g(w:World)(d:Value)(ss:List (List Int))(i:Int)(h:Dk w d ss)(hi:wf64 i):Calls Tryz.prog 24 #[d,.int .i64 i] w (Rt w (aggI (inoAt ss i))):=by
 have A0:=ι (b1l w)
 have hb0:=a0b (Below.refl w.heap.size w) (.cells #[.int .i64 0,.int .i64 0,.int .i64 0,.int .i64 0,.int .i64 0,.int .i64 0] 50)
 obtain⟨i1,i2⟩:=rows.wf_i64 hi
 by_cases hin:0≤i∧i<16
 ·have e:inoAt ss i=inoOfV (secAt ss (1+i)):=by rw[inoAt,if_pos hin]
  rw[e]
  have HT:=ι fun w' (hb:Below w.heap.size w w')=>a9q w' d ss (1+i) (h.later hb) (WalkArith.wf_i64 (by omega))
  have hS:=a0t h.secs.1 (1+i)
  have HI:=ι fun w=>b1a (secAt ss (1+i)) hS w
  have H4:=ι (a6d hS)
  obtain⟨j1,j2⟩:=hin
  obtain⟨W,hW⟩:∃W,w.alloc (.cells #[.int .i64 0,.int .i64 0,.int .i64 0,.int .i64 0,.int .i64 0,.int .i64 0] 50)=W:=⟨_,rfl⟩
  rw[hW] at hb0 A0
  have HB0:=ι hb0
  generalize inoOfV (secAt ss (1+i))=x at *
  generalize inoOfB (secAt ss (1+i))=xb at *
  generalize secAt ss (1+i)=s at *
  clear h hS e hb0
  go_enter Tryz.func24,Tryz.ntmps24
  go_upto_region 1 with fail
  clear hW
  go_wp2_with (first|(go_at_call 59;refine(HT.out _ HB0.out).mono ?_;rintro e w1 ⟨rfl,hb⟩;have B1:=ι (a0a HB0.out hb);have A1:=ι (A0.out.later hb);clear hb)|(go_at_call 58;refine(HI.out _).mono ?_;rintro e w3 ⟨rfl,hb⟩;have B3:=ι (a0a B1.out hb);have A3:=ι (A1.out.later hb);clear hb)|(refine a1i rfl (.tmp 5) (.tmp 20) rfl rfl w3.heap.size x ino0 rfl rfl H4.out rfl (b1l w3) ?_;intro w4 hA hB _;have hb:=(a0b (Below.refl _ w3) _).trans hB;have B4:=ι (a0a B3.out hb);have A4:=ι (A3.out.later hb);have X4:=ι hA;clear hA hB hb)|(refine a1v rfl (.tmp 5) rfl w3.heap.size rfl x H4.out X4.out ?_)|(refine a1i rfl (.tmp 4) (.tmp 22) rfl rfl w.heap.size x ino0 rfl rfl H4.out rfl A4.out ?_;intro w5 hA hB _;have A5:=ι hA;have B5:=ι (B4.out.trans hB);clear hA hB))
  exact a8n rfl w.heap.size x rfl H4.out A5.out rfl ⟨rfl,B5.out⟩
 ·have e:inoAt ss i=ino0:=by rw[inoAt,if_neg hin]
  rw[e]
  clear h e
  obtain⟨W,hW⟩:∃W,w.alloc (.cells #[.int .i64 0,.int .i64 0,.int .i64 0,.int .i64 0,.int .i64 0,.int .i64 0] 50)=W:=⟨_,rfl⟩
  rw[hW] at hb0 A0
  have HB0:=ι hb0
  clear hb0
  by_cases hz:i<0
  ·go_enter Tryz.func24,Tryz.ntmps24
   go_upto_region 1 with fail
   clear hW
   go_wp2_with (refine a1i rfl (.tmp 4) (.tmp 13) rfl rfl w.heap.size ino0 ino0 rfl rfl rfl rfl A0.out ?_;intro w5 hA hB _;have A5:=ι hA;have B5:=ι (HB0.out.trans hB);clear hA hB)
   exact a8n rfl w.heap.size ino0 rfl rfl A5.out rfl ⟨rfl,B5.out⟩
  ·have hz2:16≤i:=by omega
   have hz0:0≤i:=by omega
   go_enter Tryz.func24,Tryz.ntmps24
   go_upto_region 1 with fail
   clear hW
   go_wp2_with (refine a1i rfl (.tmp 4) (.tmp 13) rfl rfl w.heap.size ino0 ino0 rfl rfl rfl rfl A0.out ?_;intro w5 hA hB _;have A5:=ι hA;have B5:=ι (HB0.out.trans hB);clear hA hB)
   exact a8n rfl w.heap.size ino0 rfl rfl A5.out rfl ⟨rfl,B5.out⟩
set_option maxRecDepth 100000 in
set_option maxHeartbeats 1600000 in
theorem b2o(w:World)(d:Value)(ss:List (List Int))(i:Int)(h:Dk w d ss)(hi:wf64 i):Calls Tryz.prog 57 #[d,.int .i64 i] w (Rt w (aggE (entAt ss i))):=by
 have A0:=ι (b5u w)
 have hb0:=a0b (Below.refl w.heap.size w) (.cells #[.bool false,.int .i64 0,.string { data := #[] },.int .i64 0] 119)
 obtain⟨i1,i2⟩:=rows.wf_i64 hi
 by_cases hin:0≤i∧i<24
 ·have e:entAt ss i=entOfV (secAt ss (17+i)):=by rw[entAt,if_pos hin]
  rw[e]
  have HT:=ι fun w' (hb:Below w.heap.size w w')=>a9q w' d ss (17+i) (h.later hb) (WalkArith.wf_i64 (by omega))
  have hS:=a0t h.secs.1 (17+i)
  have HI:=ι fun w=>b1t (secAt ss (17+i)) hS w
  have _h4:=True.intro
  obtain⟨j1,j2⟩:=hin
  obtain⟨W,hW⟩:∃W,w.alloc (.cells #[.bool false,.int .i64 0,.string { data := #[] },.int .i64 0] 119)=W:=⟨_,rfl⟩
  rw[hW] at hb0 A0
  have HB0:=ι hb0
  generalize entOfV (secAt ss (17+i))=x at *
  generalize entOfB (secAt ss (17+i))=xb at *
  generalize secAt ss (17+i)=s at *
  clear h hS e hb0
  go_enter Tryz.func57,Tryz.ntmps57
  go_upto_region 1 with fail
  clear hW
  go_wp2_with (first|(go_at_call 59;refine(HT.out _ HB0.out).mono ?_;rintro e w1 ⟨rfl,hb⟩;have B1:=ι (a0a HB0.out hb);have A1:=ι (A0.out.later hb);clear hb)|(go_at_call 108;refine(HI.out _).mono ?_;rintro e w3 ⟨rfl,hb⟩;have B3:=ι (a0a B1.out hb);have A3:=ι (A1.out.later hb);clear hb)|(refine a1o rfl (.tmp 5) (.tmp 20) rfl rfl w3.heap.size x ent0 rfl rfl (b5u w3) ?_;intro w4 hA hB _;have hb:=(a0b (Below.refl _ w3) _).trans hB;have B4:=ι (a0a B3.out hb);have A4:=ι (A3.out.later hb);have X4:=ι hA;clear hA hB hb)|(refine a2m rfl (.tmp 5) rfl w3.heap.size rfl x X4.out ?_)|(refine a1o rfl (.tmp 4) (.tmp 22) rfl rfl w.heap.size x ent0 rfl rfl A4.out ?_;intro w5 hA hB _;have A5:=ι hA;have B5:=ι (B4.out.trans hB);clear hA hB))
  exact a8u rfl w.heap.size x rfl A5.out rfl ⟨rfl,B5.out⟩
 ·have e:entAt ss i=ent0:=by rw[entAt,if_neg hin]
  rw[e]
  clear h e
  obtain⟨W,hW⟩:∃W,w.alloc (.cells #[.bool false,.int .i64 0,.string { data := #[] },.int .i64 0] 119)=W:=⟨_,rfl⟩
  rw[hW] at hb0 A0
  have HB0:=ι hb0
  clear hb0
  by_cases hz:i<0
  ·go_enter Tryz.func57,Tryz.ntmps57
   go_upto_region 1 with fail
   clear hW
   go_wp2_with (refine a1o rfl (.tmp 4) (.tmp 13) rfl rfl w.heap.size ent0 ent0 rfl rfl A0.out ?_;intro w5 hA hB _;have A5:=ι hA;have B5:=ι (HB0.out.trans hB);clear hA hB)
   exact a8u rfl w.heap.size ent0 rfl A5.out rfl ⟨rfl,B5.out⟩
  ·have hz2:24≤i:=by omega
   have hz0:0≤i:=by omega
   go_enter Tryz.func57,Tryz.ntmps57
   go_upto_region 1 with fail
   clear hW
   go_wp2_with (refine a1o rfl (.tmp 4) (.tmp 13) rfl rfl w.heap.size ent0 ent0 rfl rfl A0.out ?_;intro w5 hA hB _;have A5:=ι hA;have B5:=ι (HB0.out.trans hB);clear hA hB)
   exact a8u rfl w.heap.size ent0 rfl A5.out rfl ⟨rfl,B5.out⟩
end lk
namespace al
set_option maxRecDepth 100000
open Go.ChangeShapes Go.WideShapes Go.ChangeAt Go.RowKit
open rows
open sec
open ly
open lk
def boolsV(l:List Bool):List Value:=l.map .bool
end al
end Go.Proofs.YtjedjkjhodgidaaGreatDoor
