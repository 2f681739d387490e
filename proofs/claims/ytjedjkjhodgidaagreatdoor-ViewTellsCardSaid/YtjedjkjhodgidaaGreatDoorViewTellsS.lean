/- What ViewTells wants, part 19. -/
import Derived.Test.YtjedjkjhodgidaaGreatDoorViewTellsA
import Derived.Test.YtjedjkjhodgidaaGreatDoorViewTellsB
import Derived.Test.YtjedjkjhodgidaaGreatDoorViewTellsJ
import Derived.Test.YtjedjkjhodgidaaGreatDoorViewTellsK
import Derived.Test.YtjedjkjhodgidaaGreatDoorViewTellsN
import Derived.Test.YtjedjkjhodgidaaGreatDoorViewTellsO
import Derived.Test.YtjedjkjhodgidaaGreatDoorViewTellsP
import Derived.Test.YtjedjkjhodgidaaGreatDoorViewTellsQ
import Derived.Test.YtjedjkjhodgidaaGreatDoorViewTellsR
set_option linter.unusedVariables false
set_option linter.unusedSimpArgs false
namespace Go.Proofs.YtjedjkjhodgidaaGreatDoor
namespace lk
set_option maxRecDepth 100000
open Go.ChangeShapes Go.WideShapes Go.ChangeAt Go.RowKit
open rows
open sec
open dsk (Wr.ok Wr.c Wr.c_len wf64 St Wr CA seenOf readOf readR writeR asks grow cread uread a8v a1d a2z a1n Keeps.of_below a3w)
open ly
def Dk(w:World)(d:Value)(ss:List (List Int)):Prop:=(d = .pointer none∧ss=[])∨∃F st,CA w F d st∧st.fine∧seenOf st=ss
theorem CA.later'{w w':World}{F:Nat→Prop}{d:Value}{st:St}(h:CA w F d st)(hb:Below w.heap.size w w'):CA w' F d st:=by
 obtain⟨z,g,vs,vw,vn,vl,vf,hd,h⟩:=h
 exact⟨z,g,vs,vw,vn,vl,vf,hd,a1n h (Keeps.of_below hb)⟩
theorem Dk.later{w w':World}{d:Value}{ss:List (List Int)}(h:Dk w d ss)(hb:Below w.heap.size w w'):Dk w' d ss:=by
 rcases h with h|⟨F,st,h1,h2,h3⟩
 ·exact Or.inl h
 ·exact Or.inr ⟨F,st,CA.later' h1 hb,h2,h3⟩
theorem Dk.secs{w:World}{d:Value}{ss:List (List Int)}(h:Dk w d ss):Secs ss∧ss.length≤65:=by
 rcases h with⟨_,rfl⟩|⟨F,st,h1,h2,rfl⟩
 ·exact⟨fun s hs=>(by cases hs),Nat.zero_le _⟩
 ·exact⟨a2z h2,by rw[a1d];exact h2.n1⟩
def secAt(ss:List (List Int))(i:Int):List Int:=if 0≤i∧i<(ss.length:Int) then ss.getD i.toNat zero32 else zero32
theorem a0x{ss:List (List Int)}(h:Secs ss)(i:Int):Sec (secAt ss i):=by
 unfold secAt
 split
 ·rename_i hi
  have hl:i.toNat<ss.length:=by omega
  rw[show ss.getD i.toNat zero32=ss[i.toNat] by simp[List.getD,hl]]
  exact h _ (List.getElem_mem hl)
 ·exact a1v
theorem dread(w:World)(d:Value)(ss:List (List Int))(i:Int)(h:Dk w d ss)(hi:wf64 i) :
  Calls Tryz.prog 53 #[d,.int .i64 i] w (Rt w (.tuple #[agg (secAt ss i),.int .i64 (if 0≤i∧i<(ss.length:Int) then 0 else 1)])):=by
 rcases h with⟨rfl,rfl⟩|⟨F,st,h1,h2,rfl⟩
 ·have e:¬(0≤i∧i<(([]:List (List Int)).length:Int)):=by simp;try omega
  rw[secAt,if_neg e,if_neg e]
  exact uread (Or.inl rfl) i
 ·have h3:=cread w F d st i h1 h2 hi
  rw[readR] at h3
  rw[secAt,a1d]
  by_cases hin:0≤i∧i<(st.safe.length:Int)
  ·rw[if_pos hin] at h3
   rw[if_pos hin,if_pos hin]
   have hk:i.toNat<st.safe.length:=by omega
   have e:=a8v i.toNat st.wait st.safe (fun x hx=>(h2.pos x hx).1) hk
   have e2:(seenOf st).getD i.toNat zero32=readOf st i.toNat:=by
    have hl:i.toNat<(seenOf st).length:=by rw[a1d];exact hk
    have h1:some ((seenOf st)[i.toNat])=some (readOf st i.toNat):=(List.getElem?_eq_getElem _).symm.trans e
    rw[List.getD,List.getElem?_eq_getElem hl]
    exact Option.some.inj h1
   rw[e2]
   exact h3
  ·rw[if_neg hin] at h3
   rw[if_neg hin,if_neg hin]
   exact h3
def wr1(l:List (List Int))(x:Wr):List (List Int):=if 0≤x.pos∧x.pos<(l.length:Int) then l.set x.pos.toNat x.s else l
theorem wr1_len(l:List (List Int))(x:Wr):(wr1 l x).length=l.length:=by unfold wr1;split<;>simp
def over(ss:List (List Int))(ws:List Wr)(i:Nat):List (List Int):=(ws.take i).foldl wr1 ss
theorem a4y{ss:List (List Int)}{ws:List Wr}{i:Nat}(h:i<ws.length):over ss ws (i+1)=wr1 (over ss ws i) ws[i]:=by
 rw[over,List.take_succ_eq_append_getElem h,List.foldl_append];rfl
theorem a5w(ss:List (List Int))(ws:List Wr):∀i,i≤ws.length→(over ss ws i).length=ss.length
 | 0,_=>rfl
 | i+1,h=>by rw[a4y (show i<ws.length by omega),wr1_len,a5w ss ws i (by omega)]
def withL(ss:List (List Int))(ws:List Wr):List (List Int):=if 1≤ss.length∧ss.length≤65 then over ss ws ws.length else []
structure WAt (W:World) (ss:List (List Int)) (ws:List Wr) (i:Nat) (d:Value) (w:World) (F:Nat→Prop) (st:St):Prop where
 code:CA w F d st
 good:st.good i
 bad:st.bad=[]
 seen:seenOf st=over ss ws i
 inF:∀b,F b→W.heap.size≤b∧b<w.heap.size
 below:Below W.heap.size W w
theorem WAt.later{W w w':World}{ss:List (List Int)}{ws:List Wr}{i:Nat}{d:Value}{F:Nat→Prop}{st:St}(h:WAt W ss ws i d w F st)(hb:Below w.heap.size w w'):WAt W ss ws i d w' F st :=
 ⟨CA.later' h.code hb,h.good,h.bad,h.seen,fun b hF=>by have:=h.inF b hF;have:=hb.size;omega,a0b h.below hb⟩
theorem WAt.done{W w w':World}{ss:List (List Int)}{ws:List Wr}{i:Nat}{d:Value}{F:Nat→Prop}{st:St}(h:WAt W ss ws i d w F st)(hi:i<ws.length)(hok:∀x∈ws,x.ok)
  (hc:CA w' (grow F w w') d (writeR st ws[i].pos ws[i].s ws[i].kind ws[i].id).2) (ht:dsk.Touch F w w'):WAt W ss ws (i+1) d w' (grow F w w') (writeR st ws[i].pos ws[i].s ws[i].kind ws[i].id).2:=by
 have hz:=ht.size
 have hbz:=h.below.size
 have hsl:(over ss ws i).length=st.safe.length:=by rw[← h.seen,a1d]
 have hx:=hok _ (List.getElem_mem hi)
 have hF2:∀b,grow F w w' b→W.heap.size≤b∧b<w'.heap.size:=fun b hF=>by
  rcases hF with hF|hF
  ·have:=h.inF b hF;omega
  ·omega
 have hb2:=h.below.trans (ht.below hbz fun i hi=>(h.inF i hi).1)
 have hna:asks st=false:=by unfold asks;rw[h.bad];simp
 have hg:=h.good
 have hov:=a4y (ss:=ss) hi
 generalize ws[i]=x at *
 unfold writeR at hc ⊢
 by_cases hin:0≤x.pos∧x.pos<(st.safe.length:Int)
 ·rw[if_pos hin,if_neg (by rw[hna];decide)] at hc ⊢
  refine⟨hc,⟨hg.ss,hg.n1,fun y hy => ?_,fun e he => ?_,?_,?_,hg.bn,⟨hg.ep.1,?_⟩,⟨?_,?_⟩⟩,h.bad,?_,hF2,hb2⟩
  ·rcases List.mem_append.1 hy with hy|hy
   ·exact hg.ws y hy
   ·rw[List.mem_singleton.1 hy];exact⟨hx.1,hin⟩
  ·rcases List.mem_append.1 he with he|he
   ·exact hg.es e he
   ·rw[List.mem_singleton.1 he];exact⟨hx.1,Nat.zero_le _⟩
  ·have:=hg.wn;simp;omega
  ·have:=hg.ln;simp;omega
  ·have:=hg.ep.2;show st.ep≤((i+1:Nat):Int);omega
  ·have:=hg.asked.1;show 0≤st.asked+1;omega
  ·have:=hg.asked.2;show st.asked+1≤((i+1:Nat):Int);omega
  ·have e:seenOf { st with asked:=st.asked+1,wait:=st.wait++[⟨x.pos,x.s,x.kind,x.id,st.ep⟩],log:=st.log++[(1,⟨x.pos,x.s,x.kind,x.id,st.ep⟩,[])] }=(seenOf st).set x.pos.toNat x.s:=a3w st ⟨x.pos,x.s,x.kind,x.id,st.ep⟩
   exact e.trans (by rw[h.seen,hov,wr1,hsl,if_pos hin])
 ·rw[if_neg hin] at hc ⊢
  refine⟨hc,⟨hg.ss,hg.n1,hg.ws,hg.es,?_,?_,hg.bn,⟨hg.ep.1,?_⟩,⟨?_,?_⟩⟩,h.bad,?_,hF2,hb2⟩
  ·have:=hg.wn;show st.wait.length≤i+1;omega
  ·have:=hg.ln;show st.log.length≤i+1;omega
  ·have:=hg.ep.2;show st.ep≤((i+1:Nat):Int);omega
  ·have:=hg.asked.1;show 0≤st.asked+1;omega
  ·have:=hg.asked.2;show st.asked+1≤((i+1:Nat):Int);omega
  ·exact h.seen.trans (by rw[hov,wr1,hsl,if_neg hin])
theorem WAt.dk{W w:World}{ss:List (List Int)}{ws:List Wr}{i:Nat}{d:Value}{F:Nat→Prop}{st:St}(h:WAt W ss ws i d w F st)(hi:i≤900):Dk w d (over ss ws i):=Or.inr ⟨F,st,h.code,h.good.fine hi,h.seen⟩
theorem WAt.start{W w:World}{ss:List (List Int)}{ws:List Wr}{d:Value}(hs:Secs ss)(hl:ss.length≤65)(hb:Below W.heap.size W w)(hc:CA w (fun b=>W.heap.size≤b∧b<w.heap.size) d (dsk.st0 ss)):WAt W ss ws 0 d w (fun b=>W.heap.size≤b∧b<w.heap.size) (dsk.st0 ss) :=
 ⟨hc,⟨hs,hl,fun x hx=>(by cases hx),fun x hx=>(by cases hx),Nat.le_refl _,Nat.le_refl _,Nat.zero_le _,⟨Int.le_refl _,Int.le_refl _⟩,⟨Int.le_refl _,Int.le_refl _⟩⟩,rfl,rfl,fun b hb=>hb,hb⟩
theorem b2a{H:Type}{enc:TypeId×Value→H}{W:World}{p:Option Addr}{len cap:Nat}{d:DataW H}{ps:List MemPlace}
  (h:DataW.Trod enc Tryz.prog W 0 (fun _=>true) true 23 (.slice p len cap) d ps):∃ws:List Wr,(∀x∈ws,x.ok)∧Rd W 36 (.slice p len cap) len (dsk.wrsC ws)∧len≤maxLen:=by
 obtain⟨fuel,hf⟩:=h
 obtain⟨p',len',cap',l,hcs,hg,hll,hr,hm⟩:=open_slice Wr.c (by decide) dsk.und_wrs dsk.cellsWr Wr.ok (fun x hx=>Wr.c_len hx.1) (fun _ _ _ h=>dsk.b1w h) hf
 simp[Value.cells] at hcs
 obtain⟨rfl,rfl,rfl⟩:=hcs
 exact⟨l,hg,hr,hm⟩
end lk
namespace lk
set_option maxRecDepth 100000
open Go.ChangeShapes Go.WideShapes Go.ChangeAt Go.RowKit
open rows
open sec
open dsk (Wr.ok Wr.c Wr.c_len Wr a2k a0k b3n wrsC)
open ly
def WD(W:World)(ss:List (List Int))(ws:List Wr)(i:Nat)(d:Value)(w:World)(F:Nat→Prop):Prop :=
 (d = .pointer none∧¬(1≤ss.length∧ss.length≤65)∧(∀b,¬F b)∧Below W.heap.size W w)∨((1≤ss.length∧ss.length≤65)∧∃st,WAt W ss ws i d w F st)
theorem WD.later{W w w':World}{ss:List (List Int)}{ws:List Wr}{i:Nat}{d:Value}{F:Nat→Prop}(h:WD W ss ws i d w F)(hb:Below w.heap.size w w'):WD W ss ws i d w' F:=by
 rcases h with⟨h1,h2,h3,h4⟩|⟨h1,st,h2⟩
 ·exact Or.inl ⟨h1,h2,h3,a0b h4 hb⟩
 ·exact Or.inr ⟨h1,st,h2.later hb⟩
theorem WD.below{W w:World}{ss:List (List Int)}{ws:List Wr}{i:Nat}{d:Value}{F:Nat→Prop}(h:WD W ss ws i d w F):Below W.heap.size W w:=by
 rcases h with⟨_,_,_,h⟩|⟨_,st,h⟩
 ·exact h
 ·exact h.below
theorem WD.inF{W w:World}{ss:List (List Int)}{ws:List Wr}{i:Nat}{d:Value}{F:Nat→Prop}(h:WD W ss ws i d w F)(b:Nat)(hF:F b):W.heap.size≤b:=by
 rcases h with⟨_,_,h,_⟩|⟨_,st,h⟩
 ·exact absurd hF (h b)
 ·exact(h.inF b hF).1
theorem WD.dk{W w:World}{ss:List (List Int)}{ws:List Wr}{d:Value}{F:Nat→Prop}(h:WD W ss ws ws.length d w F)(hl:ws.length≤900):Dk w d (withL ss ws):=by
 rcases h with⟨rfl,h2,_,_⟩|⟨h1,st,h⟩
 ·rw[withL,if_neg h2];exact Or.inl ⟨rfl,rfl⟩
 ·rw[withL,if_pos h1];exact h.dk hl
theorem dwrite{W w:World}{ss:List (List Int)}{ws:List Wr}{i:Nat}{d:Value}{F:Nat→Prop}(h:WD W ss ws i d w F)(hi:i<ws.length)(hl:i≤900)(hok:∀x∈ws,x.ok) :
  Calls Tryz.prog 37 #[d,.int .i64 ws[i].pos,agg ws[i].s,.agg #[.int .i64 ws[i].kind,.int .i64 ws[i].id]] w fun e w'=>∃r F',e = .returned (.int .i64 r)∧WD W ss ws (i+1) d w' F'∧dsk.Touch F w w':=by
 obtain⟨o1,o2,o3,o4,o5⟩:=hok _ (List.getElem_mem hi)
 rcases h with⟨rfl,h2,h3,h4⟩|⟨h1,st,h⟩
 ·refine(dsk.uwrite (Or.inl rfl) _ _ _ _).mono ?_
  rintro e w' ⟨rfl,hb⟩
  exact⟨_,F,rfl,Or.inl ⟨rfl,h2,h3,a0b h4 hb⟩,dsk.Touch.of_below hb⟩
 ·refine(dsk.cwrite w F d st ws[i].pos ws[i].s ws[i].kind ws[i].id h.code (h.good.fine hl) o2 o1 o3 o4).mono ?_
  rintro e w' ⟨rfl,hc,ht⟩
  exact⟨_,_,rfl,Or.inr ⟨h1,_,h.done hi hok hc ht⟩,ht⟩
theorem dfrom(w:World)(p:Option Addr)(n c:Nat)(ss:List (List Int))(ws:List Wr)(hs:Secs ss)(h:Rd w 32 (.slice p n c) n (cellsOf ss))(hn:n≤200) :
  Calls Tryz.prog 36 #[.slice p n c] w fun e w'=>∃d r F,e = .returned (.tuple #[d,.int .i64 r])∧WD w ss ws 0 d w' F:=by
 have hl:ss.length=n:=by have h:=h.cells;rw[a0l hs] at h;omega
 by_cases h1:1≤n∧n≤65
 ·refine(dsk.b5x w p n c ss hs h h1.1 h1.2).mono ?_
  rintro e w' ⟨ad,rfl,hc,hb⟩
  exact⟨_,_,_,rfl,Or.inr ⟨by rw[hl];exact h1,_,WAt.start hs (by omega) hb hc⟩⟩
 ·refine(dsk.c0l w p n c hn (by omega)).mono ?_
  rintro e w' ⟨rfl,hb⟩
  exact⟨_,_,fun _=>False,rfl,Or.inl ⟨rfl,by rw[hl];exact h1,fun _ h=>h,hb⟩⟩
theorem wr_tagR{w:World}{b o:Nat}{x:Wr}(hs:Sec x.s)(h:w.rangeAt b o x.c):w.rangeAt b (o+33) [.int .i64 x.kind,.int .i64 x.id]:=fun j u hj=>by
 obtain⟨_,_,c1,c2,_⟩:=a2k hs h
 match j,hj with
 | 0,hj=>simp at hj;subst hj;simpa using c1
 | 1,hj=>simp at hj;subst hj;simpa using c2
set_option maxRecDepth 100000 in
set_option maxHeartbeats 1600000 in
theorem b2q(p:Option Addr)(n c:Nat)(ss:List (List Int))(p2:Option Addr)(m c2:Nat)(ws:List Wr)(w:World)(h1:Rd w 32 (.slice p n c) n (cellsOf ss))(hs:Secs ss)(hn:n≤200)
  (h2:Rd w 36 (.slice p2 m c2) m (wrsC ws)) (hok:∀x∈ws,x.ok) (hm:m≤40) :
  Calls Tryz.prog 10 #[.slice p n c,.slice p2 m c2] w fun e w'=>∃d,e = .returned d∧Dk w' d (withL ss ws)∧Below w.heap.size w w':=by
 have H1:=ι (dfrom w p n c ss ws hs h1 hn)
 have H2:=ι h2
 have HOK:=ι hok
 have HLL:=ι (dsk.Rd.count Wr.c h2 (fun x hx=>Wr.c_len (hok x hx).1) (by decide))
 have hmi:(m:Int)≤40:=by omega
 clear h1 hs h2 hok
 go_enter Tryz.func10,Tryz.ntmps10
 go_wp2_with (go_at_call 36;refine H1.out.mono ?_;rintro e w1 ⟨d,r,F0,rfl,hwd⟩;have HWD0:=ι hwd;clear hwd)
 go_loopw [7] (fun iv wr=>∃(i:Nat) (F:Nat→Prop),i≤m∧iv = .int .i64 (i:Int)∧Hid (WD w ss ws i d wr F)) (fun iv _=>m-(intOf iv).toNat)
 case atStart=>exact⟨0,_,by omega,rfl,HWD0⟩
 case round =>
  clear HWD0
  obtain⟨i,F,hi,rfl,HKA⟩:=hrel
  by_cases him:i<m
  ·have him1:(i:Int)<m:=by omega
   have hil:i<ws.length:=by rw[HLL.out];exact him
   obtain⟨b2,o2,rfl,hcc2,hcm2,hb2,_,HR2⟩:=dsk.Rd.chunk Wr.c H2.out (fun x hx=>Wr.c_len (HOK.out x hx).1) (by decide) him
   have hmem:=List.getElem_mem hil
   have HAO:=ι (HOK.out _ hmem).1
   have HWR:=ι (Rd.rangeLater (HR2 i hil) hb2 HKA.out.below)
   have HDW:=ι fun w' (hw:WD w ss ws i d w' F)=>dwrite hw hil (by omega) HOK.out
   generalize ws[i]=x at *
   clear HR2 hmem
   have hw4:=HKA.out.below.size
   have hbw:b2<wr.heap.size:=by omega
   go_wp2_with fail
   have HKD:=ι (HKA.out.later ((Below.refl wr.heap.size wr).drew))
   have hnF:¬F b2:=fun hF=>by have:=HKA.out.inF _ hF;omega
   have hbd:b2<wr.drew.heap.size:=hbw
   have HWD:Hid (wr.drew.rangeAt b2 (o2+i * 36) x.c):=ι (Rd.rangeLater HWR.out hbw ((Below.refl wr.heap.size wr).drew))
   refine wp_region_held_drew (S:=dsk.Touch F wr.drew) (by kernel_rfl) (dsk.Touch.refl _ _) (fun hH0 => ?_)
   refine tk 0 rfl ?_
   refine tk 1 rfl ?_
   refine tk 2 rfl ?_
   refine tk 3 rfl ?_
   refine tk 4 rfl ?_
   refine tkv 5 rfl (a0k (by rfl) 3 _ Tryz.underlying3 rfl _ rfl b2 (o2+i * 36) rfl (.int .i64 x.pos) (fun w' hw=>(a2k HAO.out (dsk.Touch.range hw hbd hnF HWD.out)).1)) ?_
   refine tk 6 rfl ?_
   refine tk 7 rfl ?_
   refine tk 8 rfl ?_
   refine tk 9 rfl ?_
   refine tkv 10 rfl (a9w (by rfl) _ rfl b2 (o2+i * 36+1) rfl x.s HAO.out.1 (fun w' hw=>(a2k HAO.out (dsk.Touch.range hw hbd hnF HWD.out)).2.1)) ?_
   refine tk 11 rfl ?_
   refine tk 12 rfl ?_
   refine tk 13 rfl ?_
   refine tk 14 rfl ?_
   refine tkv 15 rfl (b3n (by rfl) _ rfl b2 (o2+i * 36+33) rfl x.kind x.id (fun w' hw=>wr_tagR HAO.out (dsk.Touch.range hw hbd hnF HWD.out))) ?_
   refine rd 16 rfl (fun K hK => ?_)
   go_simp
   refine(HDW.out _ HKD.out).mono ?_
   rintro e v16 ⟨r16,F16,rfl,hc16,ht16⟩
   have HC16:=ι hc16
   have HT16:=ι ht16
   clear hc16 ht16
   dsimp only
   refine hK.out _ _ ?_ (fun hHeld => ?_)
   ·exact HT16.out
   clear hK K
   try simp only[Act.put,List.setIfInBounds_toArray,List.set_cons_zero,List.set_cons_succ]
   refine wpAnyH_done (by kernel_rfl) ?_ _
   clear hHeld hH0
   go_wp2_with fail
   exact⟨⟨i+1,_,by omega,by go_num,HC16⟩,by simp[intOf];omega⟩
  ·obtain rfl:i=m:=by omega
   have hfin:=HKA.out
   rw[← HLL.out] at hfin
   have HF1:=ι (hfin.dk (by rw[HLL.out];omega))
   have HF2:=ι hfin.below
   clear hfin HKA
   go_wp2_with fail
   go_ret
   exact⟨d,rfl,HF1.out,HF2.out⟩
end lk
namespace lk
set_option maxRecDepth 100000
open Go.ChangeShapes Go.WideShapes Go.ChangeAt Go.RowKit
open rows
open sec
open dsk (Wr.ok Wr.c Wr.c_len Wr a2k a0k wrsC a6b a1u a1w a2n size_alloc)
open ly
theorem b5s{w:World}(b B:Nat)(e:TypeId)(sz:Nat)(hb:b=w.heap.size)(hB:B≤b):Own (w.alloc (.cells #[] e)) B e sz (.slice (some ⟨b,0,none⟩) 0 0) 0 []:=by
 subst hb;exact a4p w e sz hB
theorem a4w{ss:List (List Int)}{ws:List Wr}(hs:Secs ss)(hw:∀x∈ws,x.ok):∀i,i≤ws.length→Secs (over ss ws i)
 | 0,_=>hs
 | i+1,h=>by
  rw[a4y (show i<ws.length by omega),wr1]
  split
  ·exact a1w (a4w hs hw i (by omega)) (hw _ (List.getElem_mem _)).1 _
  ·exact a4w hs hw i (by omega)
set_option maxRecDepth 100000 in
set_option maxHeartbeats 1600000 in
theorem b8t(p:Option Addr)(n c:Nat)(ss:List (List Int))(p2:Option Addr)(m c2:Nat)(ws:List Wr)(w:World)(h1:Rd w 32 (.slice p n c) n (cellsOf ss))(hs:Secs ss)(hn:n≤200)
  (h2:Rd w 36 (.slice p2 m c2) m (wrsC ws)) (hok:∀x∈ws,x.ok) (hm:m≤40) :
  Calls Tryz.prog 12 #[.slice p n c,.slice p2 m c2] w fun e w'=>∃q k,e = .returned (.slice q (withL ss ws).length k)∧Rd w' 32 (.slice q (withL ss ws).length k) (withL ss ws).length (cellsOf (withL ss ws))∧Below w.heap.size w w':=by
 have H1:=ι h1
 have H2:=ι h2
 have HS:=ι hs
 have HOK:=ι hok
 have hsl:ss.length=n:=by have h:=h1.cells;rw[a0l hs] at h;omega
 have HSL:=ι hsl
 have HLL:=ι (dsk.Rd.count Wr.c h2 (fun x hx=>Wr.c_len (hok x hx).1) (by decide))
 have hmi:(m:Int)≤40:=by omega
 have hni:(n:Int)≤200:=by omega
 by_cases hr:1≤n∧n≤65
 ·have HWL:Hid (withL ss ws=over ss ws m):=ι (by rw[withL,if_pos (by rw[hsl];exact hr),HLL.out])
  have hn1:(1:Int)≤n:=by omega
  have hn65:(n:Int)≤65:=by omega
  have HSF:=ι (h1.later (a0a (Below.refl w.heap.size w) (.cells #[] 74)))
  clear h1 hs h2 hok hsl
  go_enter Tryz.func12,Tryz.ntmps12
  go_wp2_with (at_builtin;refine a4o elem_secs rfl (.tmp 15) (.tmp 16) rfl w.heap.size _ 0 [] rfl (b5s _ _ _ _ rfl (Nat.le_refl _)) _ n _ rfl HSF.out (a2l .u8 _) (by omega) (by rw[size_alloc];omega) ?_;intro p4 c4 w4 ho4 hb4;have HO4:=ι ho4;have hb14:=(a0a (Below.refl w.heap.size w) (.cells #[] 74)).trans hb4;clear ho4 hb4)
  have ho4:=HO4.out
  rw[Nat.zero_add,List.nil_append] at ho4
  have HO0:Hid (Own w4 w.heap.size 74 32 (.slice p4 n c4) n (cellsOf (over ss ws 0))):=ι ho4
  clear HO4 ho4 HSF
  go_loopw [6] (fun iv wr=>∃(j:Nat),j≤m∧iv = .int .i64 (j:Int)∧Hid (Own wr w.heap.size 74 32 (.slice p4 n c4) n (cellsOf (over ss ws j)))∧Below w.heap.size w wr) (fun iv _=>m-(intOf iv).toNat)
  case atStart=>exact⟨0,by omega,rfl,HO0,hb14⟩
  case round =>
   clear HO0 hb14
   obtain⟨j,hj,rfl,HO,hbr⟩:=hrel
   by_cases ha:j<m
   ·have ha1:(j:Int)<m:=by omega
    have hjl:j<ws.length:=by rw[HLL.out];exact ha
    obtain⟨b2,o2,rfl,hcc2,hcm2,hb2,_,HR2⟩:=dsk.Rd.chunk Wr.c H2.out (fun x hx=>Wr.c_len (HOK.out x hx).1) (by decide) ha
    have hmem:=List.getElem_mem hjl
    have HAO:=ι (HOK.out _ hmem).1
    have HWR:=ι (Rd.rangeLater (HR2 j hjl) hb2 hbr)
    have HOV:=ι (a4y (ss:=ss) hjl)
    have HOS:=ι (a4w HS.out HOK.out j (by omega))
    have HOL:Hid ((over ss ws j).length=n):=ι (by rw[a5w ss ws j (by omega),HSL.out])
    generalize ws[j]=x at *
    clear HR2 hmem
    have hzr:=hbr.size
    have hbw:b2<wr.heap.size:=by omega
    have c0:=(a2k HAO.out HWR.out).1
    obtain⟨z,hz⟩:∃z,x.pos=z:=⟨_,rfl⟩
    rw[hz] at c0
    have HZ:=ι hz
    clear hz
    by_cases h0:z<0
    ·have HN:Hid (over ss ws (j+1)=over ss ws j):=ι (by rw[HOV.out,wr1,if_neg (by rw[HZ.out];omega)])
     go_wp2_with fail
     refine⟨⟨j+1,by omega,by go_num,ι (by rw[HN.out];exact HO.out),hbr⟩,by simp[intOf];omega⟩
    ·by_cases h9:(n:Int)≤z
     ·have HN:Hid (over ss ws (j+1)=over ss ws j):=ι (by rw[HOV.out,wr1,if_neg (by rw[HZ.out,HOL.out];omega)])
      have h0':(0:Int)≤z:=by omega
      go_wp2_with fail
      refine⟨⟨j+1,by omega,by go_num,ι (by rw[HN.out];exact HO.out),hbr⟩,by simp[intOf];omega⟩
     ·obtain⟨kp,rfl⟩:=Int.eq_ofNat_of_zero_le (show 0≤z by omega)
      have hkn:kp<n:=by omega
      have hkn1:(kp:Int)<n:=by omega
      have HN:Hid (over ss ws (j+1)=(over ss ws j).set kp x.s):=ι (by rw[HOV.out,wr1,if_pos (by rw[HZ.out,HOL.out];omega),HZ.out];rfl)
      obtain⟨g,hg⟩:=a6b HO.out (by omega)
      subst hg
      have hgb:=a1u HO.out (k:=g) rfl
      have hgg:=hgb.1
      have hgl:=hgb.2
      clear h0 h9 hgb
      go_upto_region 8 with fail
      have HOD:=ι (dsk.a0p HO.out ((Below.refl wr.heap.size wr).drew))
      have hbd:b2<wr.drew.heap.size:=hbw
      have HWD:Hid (wr.drew.rangeAt b2 (o2+j * 36) x.c):=ι (Rd.rangeLater HWR.out hbw ((Below.refl wr.heap.size wr).drew))
      have HZD:Hid (∀w',Below wr.drew.heap.size wr.drew w'→w'.cell? ⟨b2,o2+j * 36,none⟩=some (.int .i64 (kp:Int))):=ι (fun w' hw=>by
       have:=(a2k HAO.out (Rd.rangeLater HWD.out hbd hw)).1
       rw[HZ.out] at this
       exact this)
      refine a2p (S:=ext wr.drew) 12 (by kernel_rfl) (Below.refl _ _) (fun hH0 => ?_)
      refine tl 0 rfl ?_
      refine tl 1 rfl ?_
      refine tl 2 rfl ?_
      refine tl 3 rfl ?_
      refine tl 4 rfl ?_
      refine tlv 5 rfl (a0k (by rfl) 3 _ Tryz.underlying3 rfl _ rfl b2 (o2+j * 36) rfl (.int .i64 (kp:Int)) (fun w' hw=>HZD.out w' hw)) ?_
      refine tl 6 rfl ?_
      refine tl 7 rfl ?_
      refine tl 8 rfl ?_
      refine tl 9 rfl ?_
      refine tlv 10 rfl (a9w (by rfl) _ rfl b2 (o2+j * 36+1) rfl x.s HAO.out.1 (fun w' hw=>(a2k HAO.out (Rd.rangeLater HWD.out hbd hw)).2.1)) ?_
      refine tl 11 rfl ?_
      refine a0v (rs:=[12]) (by kernel_rfl) (by simp) ?_
      refine AllReadyL.cons (o:={ dst:=none,op:=Op.store 74 (Operand.tmp 51) (Operand.tmp 50),type:=0,pos := "ref.go:18", after := #[{ on:=11,ground:=Ground.data },{ on:=10,ground:=Ground.data },{ on:=0,ground:=Ground.phase },{ on:=1,ground:=Ground.phase },{ on:=2,ground:=Ground.phase },{ on:=3,ground:=Ground.phase },{ on:=4,ground:=Ground.phase },{ on:=5,ground:=Ground.phase },{ on:=6,ground:=Ground.phase },{ on:=7,ground:=Ground.phase },{ on:=8,ground:=Ground.phase },{ on:=9,ground:=Ground.phase },{ on:=10,ground:=Ground.phase }],guard:=none }) rfl (fun K hK => ?_) AllReadyL.nil
      refine a2n (by rfl) _ _ (by rfl) w.heap.size g kp n c4 (by rfl) x.s (by rfl) HAO.out _ HOS.out (by rw[HOL.out];exact hkn) HOD.out ?_
      intro w12 ho12 ht12
      have HO12:=ι ho12
      have HT12:=ι ht12
      clear ho12 ht12
      dsimp only
      refine hK.out _ _ (Or.inl rfl) (fun hHeld => ?_)
      clear hK K
      try simp only[Act.put,List.setIfInBounds_toArray,List.set_cons_zero,List.set_cons_succ]
      refine a4a (by kernel_rfl) ?_ _
      clear hHeld hH0
      have hb12:Below w.heap.size w w12:=hbr.drew.trans (HT12.out.below (show w.heap.size≤wr.drew.heap.size from hbr.size) (fun k hk=>by rw[hk];exact hgg))
      go_wp2_with fail
      exact⟨⟨j+1,by omega,by go_num,ι (by rw[HN.out];exact HO12.out),hb12⟩,by simp[intOf];omega⟩
   ·obtain rfl:j=m:=by omega
    have HF:Hid (Rd wr 32 (.slice p4 n c4) n (cellsOf (withL ss ws))∧(withL ss ws).length=n):=ι ⟨by rw[HWL.out];exact Own.rd HO.out,by rw[HWL.out,a5w ss ws j (by rw[HLL.out];omega),HSL.out]⟩
    clear HO
    go_wp2_with fail
    go_ret
    obtain⟨f1,f2⟩:=HF.out
    rw[f2]
    exact⟨p4,c4,rfl,f1,hbr⟩
 ·have HWL:Hid (withL ss ws=[]):=ι (by rw[withL,if_neg (by rw[hsl];exact hr)])
  clear h1 hs h2 hok hsl
  by_cases h0:n<1
  ·have h0i:(n:Int)<1:=by omega
   go_enter Tryz.func12,Tryz.ntmps12
   go_wp2_with fail
   go_ret
   rw[HWL.out]
   exact⟨none,0,rfl,a3v _ _,Below.refl _ _⟩
  ·have h0i:(1:Int)≤n:=by omega
   have h9i:(65:Int)<n:=by omega
   go_enter Tryz.func12,Tryz.ntmps12
   go_wp2_with fail
   go_ret
   rw[HWL.out]
   exact⟨none,0,rfl,a3v _ _,Below.refl _ _⟩
end lk
namespace lk
set_option maxRecDepth 100000
open Go.ChangeShapes Go.WideShapes Go.ChangeAt Go.RowKit
open rows
open sec
open dsk (wf64)
open ly
theorem b2r{ss:List (List Int)}{k:Nat}(h:k<ss.length):secAt ss (k:Int)=ss[k]:=by
 rw[secAt,if_pos (by omega)];simp[List.getD,h]
theorem b0d{ss:List (List Int)}{k:Nat}(h:ss.length≤k):secAt ss (k:Int)=zero32:=by rw[secAt,if_neg (by omega)]
theorem b6x(p:Option Addr)(n c:Nat)(ss:List (List Int))(w:World)(h:Rd w 32 (.slice p n c) n (cellsOf ss))(hs:Secs ss)(z:Int)(h0:0≤z)(h9:z≤1000)(hn:n≤100000) :
  Calls Tryz.prog 88 #[.slice p n c,.int .i64 z] w (Rt w (agg (secAt ss z))):=by
 obtain⟨k,rfl⟩:=Int.eq_ofNat_of_zero_le h0
 have hl:ss.length=n:=by have h:=h.cells;rw[a0l hs] at h;omega
 have A1:=ι (a0r w)
 have hni:(n:Int)≤100000:=by omega
 by_cases hk:k<n
 ·obtain⟨b,o,rfl,_,_,hb,_,hR⟩:=b6c h hs hk
  have HR:=ι (Rd.rangeLater (hR k (by omega)) hb (a0a (Below.refl w.heap.size w) (.cells (u8s zero32).toArray 74)))
  have HS:=ι (hs _ (List.getElem_mem (show k<ss.length by omega)))
  rw[b2r (by omega)]
  rw[← a0m] at HR
  generalize ss[k]=s at *
  clear hR h hs
  have hki:(k:Int)<n:=by omega
  go_enter Tryz.func88,Tryz.ntmps88
  go_upto_region 1 with fail
  go_wp2_with (first|(refine c0o rfl (.tmp 12) rfl b (o+k * 32) rfl s HS.out.1 HR.out ?_)|(refine a0e rfl _ _ rfl rfl w.heap.size s zero32 rfl rfl HS.out.1 (by decide) A1.out ?_;intro w4 hA hB4 _;have A4:=ι hA;clear hA))
  refine a7h rfl w.heap.size _ rfl HS.out.1 A4.out rfl ⟨rfl,?_⟩
  exact(a0a (Below.refl _ _) _).trans hB4
 ·rw[b0d (by omega)]
  have hki:(n:Int)≤k:=by omega
  clear h hs
  go_enter Tryz.func88,Tryz.ntmps88
  go_upto_region 1 with fail
  go_upto_region 2 with fail
  go_wp2_with (first|(refine a0e rfl (.tmp 4) (.tmp 9) rfl rfl w.heap.size zero32 zero32 rfl (congrArg Value.agg a0m) (by decide) (by decide) A1.out ?_;intro w4 hA hB4 _;have A4:=ι hA;clear hA))
  refine a7h rfl w.heap.size _ rfl (by decide) A4.out rfl ⟨rfl,?_⟩
  exact(a0a (Below.refl _ _) _).trans hB4
theorem a5h(w:World):AtI (w.alloc (.cells #[.int .i64 0,.int .i64 0,.int .i64 0,.int .i64 0,.int .i64 0,.int .i64 0] 50)) w.heap.size ino0:=a3j w ino0
theorem a9e(w:World):AtE (w.alloc (.cells #[.bool false,.int .i64 0,.string { data := #[] },.int .i64 0] 119)) w.heap.size ent0:=a1h w ent0
theorem a3p{fn:Func}{p:Tmp}{R:Ending→World→Prop}{a:Act}{w:World}(h:fn.results = #[.cell p 50])(g:Nat)(x:Ino)(hp:a.tmps.getD p undef = .pointer (some ⟨g,0,none⟩))(hx:x.b.length=4)(hg:AtI w g x)
  (hd:a.defers=[]) (hR:R (.returned (aggI x)) w):bodyPost Tryz.prog fn R .ret a w :=
 bodyPost_ret (results_cell_row h a.tmps w g _ _ _ _ hp hg a6k rfl (by rw[a4t];simp[a4e hx])) hd hR
theorem a3o{fn:Func}{p:Tmp}{R:Ending→World→Prop}{a:Act}{w:World}(h:fn.results = #[.cell p 119])(g:Nat)(x:Ent)(hp:a.tmps.getD p undef = .pointer (some ⟨g,0,none⟩))(hg:AtE w g x)
  (hd:a.defers=[]) (hR:R (.returned (aggE x)) w):bodyPost Tryz.prog fn R .ret a w :=
 bodyPost_ret (results_cell_row h a.tmps w g _ _ _ _ hp hg b2g rfl (by rw[a4v];rfl)) hd hR
def inoAt(ss:List (List Int))(i:Int):Ino:=if 0≤i∧i<16 then inoOfV (secAt ss (1+i)) else ino0
def entAt(ss:List (List Int))(k:Int):Ent:=if 0≤k∧k<24 then entOfV (secAt ss (17+k)) else ent0
theorem a1f{ss:List (List Int)}(hs:Secs ss)(i:Int):(inoAt ss i).b.length=4:=by
 unfold inoAt
 split
 ·exact a3x (a0x hs _)
 ·rfl
set_option maxHeartbeats 1600000 in
theorem a8m(p:Option Addr)(n c:Nat)(ss:List (List Int))(w:World)(h:Rd w 32 (.slice p n c) n (cellsOf ss))(hs:Secs ss)(hn:n≤100000)(i:Int)(hi:wf64 i) :
  Calls Tryz.prog 38 #[.slice p n c,.int .i64 i] w (Rt w (aggI (inoAt ss i))):=by
 have A0:=ι (a5h w)
 have hb0:=a0a (Below.refl w.heap.size w) (.cells #[.int .i64 0,.int .i64 0,.int .i64 0,.int .i64 0,.int .i64 0,.int .i64 0] 50)
 have HR:=h.later hb0
 obtain⟨i1,i2⟩:=rows.wf_i64 hi
 by_cases hin:0≤i∧i<16
 ·have e:inoAt ss i=inoOfV (secAt ss (1+i)):=by rw[inoAt,if_pos hin]
  rw[e]
  have HT:=b6x p n c ss _ HR hs (1+i) (by omega) (by omega) hn
  have hS:=a0x hs (1+i)
  have HI:=ι fun w=>b1b (secAt ss (1+i)) hS w
  have H4:=ι (a3x hS)
  obtain⟨j1,j2⟩:=hin
  obtain⟨W,hW⟩:∃W,w.alloc (.cells #[.int .i64 0,.int .i64 0,.int .i64 0,.int .i64 0,.int .i64 0,.int .i64 0] 50)=W:=⟨_,rfl⟩
  rw[hW] at HT hb0 A0
  have HT':=ι HT
  have HB0:=ι hb0
  generalize inoOfV (secAt ss (1+i))=x at *
  generalize inoOfB (secAt ss (1+i))=xb at *
  generalize secAt ss (1+i)=s at *
  clear HT HR h hs hS e hb0
  go_enter Tryz.func38,Tryz.ntmps38
  go_upto_region 1 with fail
  clear hW
  go_wp2_with (first|(go_at_call 88;refine HT'.out.mono ?_;rintro e w1 ⟨rfl,hb⟩;have B1:=ι (a0b HB0.out hb);have A1:=ι (A0.out.later hb);clear hb)|(go_at_call 87;refine(HI.out _).mono ?_;rintro e w2 ⟨rfl,hb⟩;have B2:=ι (a0b B1.out hb);have A2:=ι (A1.out.later hb);clear hb)|(refine a0w rfl (.tmp 5) (.tmp 20) rfl rfl w2.heap.size x ino0 rfl rfl H4.out rfl (a5h w2) ?_;intro w3 hA hB _;have hb:=(a0a (Below.refl _ w2) _).trans hB;have B3:=ι (a0b B2.out hb);have A3:=ι (A2.out.later hb);have X3:=ι hA;clear hA hB hb)|(refine a1a rfl (.tmp 5) rfl w2.heap.size rfl x H4.out X3.out ?_)|(refine a0w rfl (.tmp 4) (.tmp 22) rfl rfl w.heap.size x ino0 rfl rfl H4.out rfl A3.out ?_;intro w4 hA hB _;have A4:=ι hA;have B4:=ι (B3.out.trans hB);clear hA hB))
  exact a3p rfl w.heap.size x rfl H4.out A4.out rfl ⟨rfl,B4.out⟩
 ·have e:inoAt ss i=ino0:=by rw[inoAt,if_neg hin]
  rw[e]
  clear HR h hs e
  by_cases hz:i<0
  ·go_enter Tryz.func38,Tryz.ntmps38
   go_wp2_with fail
   exact a3p rfl w.heap.size ino0 rfl rfl A0.out rfl ⟨rfl,hb0⟩
  ·have hz2:16≤i:=by omega
   have hz0:0≤i:=by omega
   go_enter Tryz.func38,Tryz.ntmps38
   go_wp2_with fail
   exact a3p rfl w.heap.size ino0 rfl rfl A0.out rfl ⟨rfl,hb0⟩
set_option maxHeartbeats 1600000 in
theorem a6c(p:Option Addr)(n c:Nat)(ss:List (List Int))(w:World)(h:Rd w 32 (.slice p n c) n (cellsOf ss))(hs:Secs ss)(hn:n≤100000)(i:Int)(hi:wf64 i) :
  Calls Tryz.prog 91 #[.slice p n c,.int .i64 i] w (Rt w (aggE (entAt ss i))):=by
 have A0:=ι (a9e w)
 have hb0:=a0a (Below.refl w.heap.size w) (.cells #[.bool false,.int .i64 0,.string { data := #[] },.int .i64 0] 119)
 have HR:=h.later hb0
 obtain⟨i1,i2⟩:=rows.wf_i64 hi
 by_cases hin:0≤i∧i<24
 ·have e:entAt ss i=entOfV (secAt ss (17+i)):=by rw[entAt,if_pos hin]
  rw[e]
  have HT:=b6x p n c ss _ HR hs (17+i) (by omega) (by omega) hn
  have hS:=a0x hs (17+i)
  have HI:=ι fun w=>b0o (secAt ss (17+i)) hS w
  obtain⟨j1,j2⟩:=hin
  obtain⟨W,hW⟩:∃W,w.alloc (.cells #[.bool false,.int .i64 0,.string { data := #[] },.int .i64 0] 119)=W:=⟨_,rfl⟩
  rw[hW] at HT hb0 A0
  have HT':=ι HT
  have HB0:=ι hb0
  generalize entOfV (secAt ss (17+i))=x at *
  generalize entOfB (secAt ss (17+i))=xb at *
  generalize secAt ss (17+i)=s at *
  clear HT HR h hs hS e hb0
  go_enter Tryz.func91,Tryz.ntmps91
  go_upto_region 1 with fail
  clear hW
  go_wp2_with (first|(go_at_call 88;refine HT'.out.mono ?_;rintro e w1 ⟨rfl,hb⟩;have B1:=ι (a0b HB0.out hb);have A1:=ι (A0.out.later hb);clear hb)|(go_at_call 138;refine(HI.out _).mono ?_;rintro e w2 ⟨rfl,hb⟩;have B2:=ι (a0b B1.out hb);have A2:=ι (A1.out.later hb);clear hb)|(refine a0n rfl (.tmp 5) (.tmp 20) rfl rfl w2.heap.size x ent0 rfl rfl (a9e w2) ?_;intro w3 hA hB _;have hb:=(a0a (Below.refl _ w2) _).trans hB;have B3:=ι (a0b B2.out hb);have A3:=ι (A2.out.later hb);have X3:=ι hA;clear hA hB hb)|(refine a0i rfl (.tmp 5) rfl w2.heap.size rfl x X3.out ?_)|(refine a0n rfl (.tmp 4) (.tmp 22) rfl rfl w.heap.size x ent0 rfl rfl A3.out ?_;intro w4 hA hB _;have A4:=ι hA;have B4:=ι (B3.out.trans hB);clear hA hB))
  exact a3o rfl w.heap.size x rfl A4.out rfl ⟨rfl,B4.out⟩
 ·have e:entAt ss i=ent0:=by rw[entAt,if_neg hin]
  rw[e]
  clear HR h hs e
  by_cases hz:i<0
  ·go_enter Tryz.func91,Tryz.ntmps91
   go_wp2_with fail
   exact a3o rfl w.heap.size ent0 rfl A0.out rfl ⟨rfl,hb0⟩
  ·have hz2:24≤i:=by omega
   have hz0:0≤i:=by omega
   go_enter Tryz.func91,Tryz.ntmps91
   go_wp2_with fail
   exact a3o rfl w.heap.size ent0 rfl A0.out rfl ⟨rfl,hb0⟩
end lk
namespace lk
set_option maxRecDepth 100000
open Go.ChangeShapes Go.WideShapes Go.ChangeAt Go.RowKit
def upto(p:Nat→Bool)(k:Nat):Option Nat:=(List.range k).find? p
theorem upto_succ(p:Nat→Bool)(k:Nat):upto p (k+1)=(upto p k).or (if p k then some k else none):=by
 rw[upto,List.range_succ,List.find?_append]
 cases h:p k<;>simp[upto,h]
theorem b5v{p:Nat→Bool}{k:Nat}(h:upto p k=none)(hk:p k=false):upto p (k+1)=none:=by rw[upto_succ,h,hk];rfl
theorem a8s{p:Nat→Bool}{k:Nat}(h:upto p k=none)(hk:p k=true):∀m,k<m→upto p m=some k
 | 0,hm=>by omega
 | m+1,hm=>by
  rw[upto_succ]
  by_cases e:k=m
  ·subst e;rw[h,hk];rfl
  ·rw[a8s h hk m (by omega)];rfl
theorem upto_none{p:Nat→Bool}{k:Nat}:upto p k=none↔∀i,i<k→p i=false:=by
 simp[upto,List.find?_eq_none]
theorem a6z{p:Nat→Bool}{k i:Nat}(h:upto p k=some i):i<k∧p i=true∧∀j,j<i→p j=false:=by
 induction k with
 | zero=>cases h
 | succ k ih =>
  rw[upto_succ] at h
  cases hu:upto p k with
  | some j =>
   rw[hu] at h
   obtain rfl:j=i:=Option.some.inj h
   obtain⟨h1,h2,h3⟩:=ih hu
   exact⟨by omega,h2,h3⟩
  | none =>
   rw[hu] at h
   cases hk:p k with
   | false=>rw[hk] at h;cases h
   | true =>
    rw[hk] at h
    obtain rfl:k=i:=Option.some.inj h
    exact⟨by omega,hk,upto_none.1 hu⟩
def optV(o:Option Nat):Value := .tuple #[.int .i64 ((o.getD 0:Nat):Int),.bool o.isSome]
def cntU(p:Nat→Bool):Nat→Nat
 | 0=>0
 | k+1=>if p k then cntU p k+1 else cntU p k
theorem b5l(p:Nat→Bool):∀k,cntU p k≤k
 | 0=>Nat.le_refl _
 | k+1=>by
  have:=b5l p k
  rw[cntU]
  split<;>omega
theorem b0j{p q:Nat→Bool}:∀{k:Nat},(∀i,i<k→p i=true→q i=true)→cntU p k≤cntU q k
 | 0,_=>Nat.le_refl _
 | k+1,h=>by
  have ih:=b0j (p:=p) (q:=q) (k:=k) fun i hi=>h i (by omega)
  rw[cntU,cntU]
  cases hp:p k with
  | true=>rw[h k (by omega) hp,if_pos rfl,if_pos rfl];omega
  | false =>
   rw[if_neg (by decide)]
   split<;>omega
theorem a9g{p q:Nat→Bool}:∀{k:Nat},(∀i,i<k→p i=true→q i=true)→(∃i,i<k∧q i=true∧p i=false)→cntU p k<cntU q k
 | 0,_,⟨i,hi,_⟩=>by omega
 | k+1,h,⟨i,hi,hq,hp⟩=>by
  have hm:=b0j (p:=p) (q:=q) (k:=k) fun i hi=>h i (by omega)
  rw[cntU,cntU]
  by_cases e:i=k
  ·subst e
   rw[hq,hp,if_pos rfl,if_neg (by decide)];omega
  ·have ih:=a9g (p:=p) (q:=q) (k:=k) (fun i hi=>h i (by omega)) ⟨i,by omega,hq,hp⟩
   cases hpk:p k with
   | true=>rw[h k (by omega) hpk,if_pos rfl,if_pos rfl];omega
   | false =>
    rw[if_neg (by decide)]
    split<;>omega
end lk
namespace pa
set_option maxRecDepth 100000
end pa
namespace al
end al
namespace lk
open Go.ChangeShapes Go.WideShapes Go.ChangeAt Go.RowKit
open rows
open sec
open dsk (wf64 a0c)
open ly
open pa
def standB(ss:List (List Int))(k:Nat):Bool:=(entAt ss (k:Int)).used && !decide ((inoAt ss (entAt ss (k:Int)).target).kind=0)
def inB(ss:List (List Int))(d:Int)(nm:ByteArray)(k:Nat):Bool:=standB ss k && decide ((entAt ss (k:Int)).parent=d) && decide ((entAt ss (k:Int)).name=nm)
def findO(ss:List (List Int))(d:Int)(nm:ByteArray):Option Nat:=upto (inB ss d nm) 24
theorem a5z{ss:List (List Int)}(hs:Secs ss)(k:Int):0≤(entAt ss k).parent∧(entAt ss k).parent≤255∧0≤(entAt ss k).target∧(entAt ss k).target≤255:=by
 have f0:0≤ent0.parent∧ent0.parent≤255∧0≤ent0.target∧ent0.target≤255:=by decide
 unfold entAt
 split
 ·have hS:=a0x hs (17+k)
  rw[entOfV]
  split
  ·have h1:=a0o hS 1
   have h2:=a0o hS 2
   simp only[entC]
   omega
  ·exact f0
 ·exact f0
theorem b1f{l:List Int}(h:l.length=4):∃a b c d,l=[a,b,c,d]:=by
 match l,h with
 | [a,b,c,d],_=>exact⟨a,b,c,d,rfl⟩
theorem fieldI0(x:Ino)(h:x.b.length=4)(w:World):(Instr.field 50 (aggI x) 0).run Tryz.prog w = .ok (.int .i64 x.kind) w:=by
 obtain⟨kd,sz,bl⟩:=x
 obtain⟨a,b,c,d,rfl⟩:=b1f h
 kernel_rfl
theorem fieldE3(x:Ent)(w:World):(Instr.field 119 (aggE x) 3).run Tryz.prog w = .ok (.int .i64 x.target) w:=by
 obtain⟨u,pa,nm,tg⟩:=x
 kernel_rfl
set_option maxHeartbeats 1600000 in
theorem a6x(p:Option Addr)(n c:Nat)(ss:List (List Int))(w:World)(h:Rd w 32 (.slice p n c) n (cellsOf ss))(hs:Secs ss)(hn:n≤100000)(k:Nat)(hk:k<24) :
  Calls Tryz.prog 137 #[.slice p n c,.int .i64 (k:Int)] w (Rt w (.bool (standB ss k))):=by
 have HE:=ι (a6c p n c ss w h hs hn (k:Int) (a1l (by omega)))
 have hf:=a5z hs (k:Int)
 have HI:=ι fun w' (hb:Below w.heap.size w w')=>a8m p n c ss w' (h.later hb) hs hn (entAt ss (k:Int)).target (a1l (by omega))
 have H4:=ι (a1f hs (entAt ss (k:Int)).target)
 have HS:Hid (standB ss k=((entAt ss (k:Int)).used && !decide ((inoAt ss (entAt ss (k:Int)).target).kind=0))):=ι rfl
 generalize inoAt ss (entAt ss (k:Int)).target=y at HI H4 HS
 generalize entAt ss (k:Int)=x at HE HI HS
 obtain⟨u,pa,nm,tg⟩:=x
 simp only at HS
 clear hf h hs hn
 cases u with
 | false =>
  go_enter Tryz.func137,Tryz.ntmps137
  go_wp2_with (go_at_call 91;refine HE.out.mono ?_;rintro e w1 ⟨rfl,hb⟩;have B1:=ι hb;clear hb)
  go_ret
  exact⟨by rw[HS.out];rfl,a0a B1.out _⟩
 | true =>
  have hf1:=fieldI0 y H4.out
  obtain⟨kd,hkd⟩:∃kd,y.kind=kd:=⟨_,rfl⟩
  rw[hkd] at HS hf1
  generalize aggI y=yv at HI hf1
  clear hkd H4
  have HS2:Hid (standB ss k = !decide (kd=0)):=ι (by rw[HS.out];rfl)
  go_enter Tryz.func137,Tryz.ntmps137
  go_wp2_with (first|(go_at_call 91;refine HE.out.mono ?_;rintro e w1 ⟨rfl,hb⟩;have B1:=ι hb;clear hb)|(go_at_call 38;refine(HI.out _ (a0a B1.out _)).mono ?_;rintro e w2 ⟨rfl,hb⟩;have B2:=ι (a0b (a0a B1.out _) hb);clear hb))
  go_ret
  exact⟨by rw[HS2.out,show (!decide (kd=0))=(kd != 0) by rw[Bool.eq_iff_iff];simp];rfl,B2.out⟩
set_option maxHeartbeats 1600000 in
theorem b6t(p:Option Addr)(n c:Nat)(ss:List (List Int))(w:World)(h:Rd w 32 (.slice p n c) n (cellsOf ss))(hs:Secs ss)(hn:n≤100000)(d:Int)(hd:wf64 d)(nm:ByteArray) :
  Calls Tryz.prog 90 #[.slice p n c,.int .i64 d,.string nm] w (Rt w (optV (findO ss d nm))):=by
 have HE:=ι fun(k:Nat) (hk:k≤24) w' (hb:Below w.heap.size w w')=>a6c p n c ss w' (h.later hb) hs hn (k:Int) (a1l (by omega))
 have HT:=ι fun(k:Nat) (hk:k<24) w' (hb:Below w.heap.size w w')=>a6x p n c ss w' (h.later hb) hs hn k hk
 obtain⟨d1,d2⟩:=rows.wf_i64 hd
 clear h hs hd
 go_enter Tryz.func90,Tryz.ntmps90
 go_wp2_with fail
 go_loopw [8,9] (fun kv _ wr=>∃k:Nat,k≤24∧kv = .int .i64 (k:Int)∧Hid (upto (inB ss d nm) k=none)∧Hid (Below w.heap.size w wr)) (fun kv _ _=>24-(intOf kv).toNat)
 case atStart=>exact⟨0,by omega,rfl,ι rfl,ι (Below.refl _ _)⟩
 case round =>
  obtain⟨k,hk,rfl,HN,HB⟩:=hrel
  by_cases hlt:k<24
  ·have hlti:(k:Int)<24:=by omega
   have HEk:=ι (HE.out k (by omega) wr HB.out)
   have HTk:=ι (HT.out k hlt)
   have HM:=ι fun hf=>b5v (p:=inB ss d nm) HN.out hf
   have HH:=ι fun ht=>a8s (p:=inB ss d nm) HN.out ht 24 (by omega)
   have HI:Hid (inB ss d nm k=(standB ss k && decide ((entAt ss (k:Int)).parent=d) && decide ((entAt ss (k:Int)).name=nm))):=ι rfl
   generalize inB ss d nm k=ib at HM HH HI
   generalize standB ss k=st at HTk HI
   generalize entAt ss (k:Int)=x at HEk HI
   obtain⟨u,pa,nx,tg⟩:=x
   simp only at HI
   cases st with
   | false =>
    have HN1:=ι (HM.out (by rw[HI.out];rfl))
    clear HM HH HI
    go_wp2_with (first|(go_at_call 91;refine HEk.out.mono ?_;rintro e w1 ⟨rfl,hb⟩;have B1:=ι (a0b HB.out hb);clear hb)|(go_at_call 137;refine(HTk.out _ (a0a B1.out _)).mono ?_;rintro e w2 ⟨rfl,hb⟩;have B2:=ι (a0b (a0a B1.out _) hb);clear hb))
    go_roundw
    case rel=>exact⟨k+1,by omega,by go_num,HN1,B2⟩
    case measure=>simp[intOf];omega
   | true =>
    by_cases hp:pa=d
    ·subst hp
     by_cases hx:nx=nm
     ·have HZ:Hid (findO ss pa nm=some k):=HH.out (by rw[HI.out,decide_eq_true hx,decide_eq_true rfl];rfl)
      subst hx
      clear HM HH HI
      go_wp2_with (first|(go_at_call 91;refine HEk.out.mono ?_;rintro e w1 ⟨rfl,hb⟩;have B1:=ι (a0b HB.out hb);clear hb)|(go_at_call 137;refine(HTk.out _ (a0a B1.out _)).mono ?_;rintro e w2 ⟨rfl,hb⟩;have B2:=ι (a0b (a0a B1.out _) hb);have hA:=(AtE.later (a1h w1 ⟨u,pa,nx,tg⟩) hb);have hc1:=a0c hA 1 _ rfl;have hc2:=a0c hA 2 _ rfl;clear hb hA))
      go_ret2
      exact⟨by rw[HZ.out];rfl,B2.out⟩
     ·have HN1:=ι (HM.out (by rw[HI.out,decide_eq_false hx,Bool.and_false]))
      have hxl:(nx.toList == nm.toList)=false:=by
       rw[beq_eq_false_iff_ne]
       intro e
       exact hx (by
        have h2:nx.data.toList=nm.data.toList:=by rw[← ByteArray.toList_eq,← ByteArray.toList_eq];exact e
        cases nx;cases nm
        simpa using h2)
      clear HM HH HI hx
      go_wp2_with (first|(go_at_call 91;refine HEk.out.mono ?_;rintro e w1 ⟨rfl,hb⟩;have B1:=ι (a0b HB.out hb);clear hb)|(go_at_call 137;refine(HTk.out _ (a0a B1.out _)).mono ?_;rintro e w2 ⟨rfl,hb⟩;have B2:=ι (a0b (a0a B1.out _) hb);have hA:=(AtE.later (a1h w1 ⟨u,pa,nx,tg⟩) hb);have hc1:=a0c hA 1 _ rfl;have hc2:=a0c hA 2 _ rfl;clear hb hA))
      go_roundw
      case rel=>exact⟨k+1,by omega,by go_num,HN1,B2⟩
      case measure=>simp[intOf];omega
    ·have HN1:=ι (HM.out (by rw[HI.out,decide_eq_false hp,Bool.and_false];rfl))
     have hpb:(pa == d)=false:=beq_eq_false_iff_ne.2 hp
     clear HM HH HI hp
     go_wp2_with (first|(go_at_call 91;refine HEk.out.mono ?_;rintro e w1 ⟨rfl,hb⟩;have B1:=ι (a0b HB.out hb);clear hb)|(go_at_call 137;refine(HTk.out _ (a0a B1.out _)).mono ?_;rintro e w2 ⟨rfl,hb⟩;have B2:=ι (a0b (a0a B1.out _) hb);have hA:=(AtE.later (a1h w1 ⟨u,pa,nx,tg⟩) hb);have hc1:=a0c hA 1 _ rfl;clear hb hA))
     go_roundw
     case rel=>exact⟨k+1,by omega,by go_num,HN1,B2⟩
     case measure=>simp[intOf];omega
  ·obtain rfl:k=24:=by omega
   have HZ:Hid (findO ss d nm=none):=HN
   go_wp2_with fail
   go_ret2
   exact⟨by rw[HZ.out];rfl,HB.out⟩
theorem b5r(k:Nat):optV (some k) = .tuple #[.int .i64 (k:Int),.bool true]:=rfl
theorem b8x{ss:List (List Int)}{d:Int}{nm:ByteArray}{k:Nat}(h:findO ss d nm=some k):k<24:=(a6z h).1
end lk
namespace lk
set_option maxRecDepth 100000
open Go.ChangeShapes Go.WideShapes Go.ChangeAt Go.RowKit
open rows
open sec
open dsk (wf64)
open ly
set_option maxRecDepth 100000 in
set_option maxHeartbeats 1600000 in
theorem a9k(w:World)(d:Value)(ss:List (List Int))(i:Int)(h:Dk w d ss)(hi:wf64 i):Calls Tryz.prog 59 #[d,.int .i64 i] w (Rt w (agg (secAt ss i))):=by
 have HT:=ι fun w' (hb:Below w.heap.size w w')=>dread w' d ss i (h.later hb) hi
 have hS:=a0x h.secs.1 i
 have A0:=ι (a0r w)
 have hb0:=a0a (Below.refl w.heap.size w) (.cells #[Value.int IntKind.u8 0,Value.int IntKind.u8 0,Value.int IntKind.u8 0,Value.int IntKind.u8 0,Value.int IntKind.u8 0,Value.int IntKind.u8 0,Value.int IntKind.u8 0,Value.int IntKind.u8 0,Value.int IntKind.u8 0,Value.int IntKind.u8 0,Value.int IntKind.u8 0,Value.int IntKind.u8 0,Value.int IntKind.u8 0,Value.int IntKind.u8 0,Value.int IntKind.u8 0,Value.int IntKind.u8 0,Value.int IntKind.u8 0,Value.int IntKind.u8 0,Value.int IntKind.u8 0,Value.int IntKind.u8 0,Value.int IntKind.u8 0,Value.int IntKind.u8 0,Value.int IntKind.u8 0,Value.int IntKind.u8 0,Value.int IntKind.u8 0,Value.int IntKind.u8 0,Value.int IntKind.u8 0,Value.int IntKind.u8 0,Value.int IntKind.u8 0,Value.int IntKind.u8 0,Value.int IntKind.u8 0,Value.int IntKind.u8 0] 74)
 obtain⟨W,hW⟩:∃W,w.alloc (.cells #[Value.int IntKind.u8 0,Value.int IntKind.u8 0,Value.int IntKind.u8 0,Value.int IntKind.u8 0,Value.int IntKind.u8 0,Value.int IntKind.u8 0,Value.int IntKind.u8 0,Value.int IntKind.u8 0,Value.int IntKind.u8 0,Value.int IntKind.u8 0,Value.int IntKind.u8 0,Value.int IntKind.u8 0,Value.int IntKind.u8 0,Value.int IntKind.u8 0,Value.int IntKind.u8 0,Value.int IntKind.u8 0,Value.int IntKind.u8 0,Value.int IntKind.u8 0,Value.int IntKind.u8 0,Value.int IntKind.u8 0,Value.int IntKind.u8 0,Value.int IntKind.u8 0,Value.int IntKind.u8 0,Value.int IntKind.u8 0,Value.int IntKind.u8 0,Value.int IntKind.u8 0,Value.int IntKind.u8 0,Value.int IntKind.u8 0,Value.int IntKind.u8 0,Value.int IntKind.u8 0,Value.int IntKind.u8 0,Value.int IntKind.u8 0] 74)=W:=⟨_,rfl⟩
 rw[hW] at hb0 A0
 have HB0:=ι hb0
 have HS:=ι hS
 generalize (if 0≤i∧i<(ss.length:Int) then (0:Int) else 1)=r at HT
 generalize secAt ss i=s at *
 clear h hS hb0 hi
 go_enter Tryz.func59,Tryz.ntmps59
 go_upto_region 1 with fail
 clear hW
 go_wp2_with (first|(go_at_call 53;refine(HT.out _ HB0.out).mono ?_;rintro e w1 ⟨rfl,hb⟩;have B1:=ι (a0b HB0.out hb);have A1:=ι (A0.out.later hb);clear hb)|(refine a0e rfl (.tmp 5) (.tmp 11) rfl rfl w1.heap.size s zero32 rfl rfl HS.out.1 (by decide) (a0r w1) ?_;intro w2 hA hB _;have hb:=(a0a (Below.refl _ w1) _).trans hB;have B2:=ι (a0b B1.out hb);have A2:=ι (A1.out.later hb);have S2:=ι hA;clear hA hB hb)|(refine a4b rfl (.tmp 5) rfl w1.heap.size rfl s HS.out.1 S2.out ?_)|(refine a0e rfl (.tmp 4) (.tmp 13) rfl rfl w.heap.size s zero32 rfl rfl HS.out.1 (by decide) A2.out ?_;intro w5 hA hB _;have A5:=ι hA;have B5:=ι (B2.out.trans hB);clear hA hB))
 exact a7h rfl w.heap.size s rfl HS.out.1 A5.out rfl ⟨rfl,B5.out⟩
set_option maxRecDepth 100000 in
set_option maxHeartbeats 1600000 in
theorem a5x(w:World)(d:Value)(ss:List (List Int))(i:Int)(h:Dk w d ss)(hi:wf64 i):Calls Tryz.prog 24 #[d,.int .i64 i] w (Rt w (aggI (inoAt ss i))):=by
 have A0:=ι (a5h w)
 have hb0:=a0a (Below.refl w.heap.size w) (.cells #[.int .i64 0,.int .i64 0,.int .i64 0,.int .i64 0,.int .i64 0,.int .i64 0] 50)
 obtain⟨i1,i2⟩:=rows.wf_i64 hi
 by_cases hin:0≤i∧i<16
 ·have e:inoAt ss i=inoOfV (secAt ss (1+i)):=by rw[inoAt,if_pos hin]
  rw[e]
  have HT:=ι fun w' (hb:Below w.heap.size w w')=>a9k w' d ss (1+i) (h.later hb) (WalkArith.wf_i64 (by omega))
  have hS:=a0x h.secs.1 (1+i)
  have HI:=ι fun w=>b1y (secAt ss (1+i)) hS w
  have H4:=ι (a3x hS)
  obtain⟨j1,j2⟩:=hin
  obtain⟨W,hW⟩:∃W,w.alloc (.cells #[.int .i64 0,.int .i64 0,.int .i64 0,.int .i64 0,.int .i64 0,.int .i64 0] 50)=W:=⟨_,rfl⟩
  rw[hW] at hb0 A0
  have HB0:=ι hb0
  generalize inoOfV (secAt ss (1+i))=x at *
  generalize inoOfB (secAt ss (1+i))=xb at *
  generalize secAt ss (1+i)=s at *
  clear h hS e hb0
  go_enter Tryz.func24,Tryz.ntmps24
  go_upto_region 1 with fail
  clear hW
  go_wp2_with (first|(go_at_call 59;refine(HT.out _ HB0.out).mono ?_;rintro e w1 ⟨rfl,hb⟩;have B1:=ι (a0b HB0.out hb);have A1:=ι (A0.out.later hb);clear hb)|(go_at_call 58;refine(HI.out _).mono ?_;rintro e w3 ⟨rfl,hb⟩;have B3:=ι (a0b B1.out hb);have A3:=ι (A1.out.later hb);clear hb)|(refine a0w rfl (.tmp 5) (.tmp 20) rfl rfl w3.heap.size x ino0 rfl rfl H4.out rfl (a5h w3) ?_;intro w4 hA hB _;have hb:=(a0a (Below.refl _ w3) _).trans hB;have B4:=ι (a0b B3.out hb);have A4:=ι (A3.out.later hb);have X4:=ι hA;clear hA hB hb)|(refine a1a rfl (.tmp 5) rfl w3.heap.size rfl x H4.out X4.out ?_)|(refine a0w rfl (.tmp 4) (.tmp 22) rfl rfl w.heap.size x ino0 rfl rfl H4.out rfl A4.out ?_;intro w5 hA hB _;have A5:=ι hA;have B5:=ι (B4.out.trans hB);clear hA hB))
  exact a3p rfl w.heap.size x rfl H4.out A5.out rfl ⟨rfl,B5.out⟩
 ·have e:inoAt ss i=ino0:=by rw[inoAt,if_neg hin]
  rw[e]
  clear h e
  obtain⟨W,hW⟩:∃W,w.alloc (.cells #[.int .i64 0,.int .i64 0,.int .i64 0,.int .i64 0,.int .i64 0,.int .i64 0] 50)=W:=⟨_,rfl⟩
  rw[hW] at hb0 A0
  have HB0:=ι hb0
  clear hb0
  by_cases hz:i<0
  ·go_enter Tryz.func24,Tryz.ntmps24
   go_upto_region 1 with fail
   clear hW
   go_wp2_with (refine a0w rfl (.tmp 4) (.tmp 13) rfl rfl w.heap.size ino0 ino0 rfl rfl rfl rfl A0.out ?_;intro w5 hA hB _;have A5:=ι hA;have B5:=ι (HB0.out.trans hB);clear hA hB)
   exact a3p rfl w.heap.size ino0 rfl rfl A5.out rfl ⟨rfl,B5.out⟩
  ·have hz2:16≤i:=by omega
   have hz0:0≤i:=by omega
   go_enter Tryz.func24,Tryz.ntmps24
   go_upto_region 1 with fail
   clear hW
   go_wp2_with (refine a0w rfl (.tmp 4) (.tmp 13) rfl rfl w.heap.size ino0 ino0 rfl rfl rfl rfl A0.out ?_;intro w5 hA hB _;have A5:=ι hA;have B5:=ι (HB0.out.trans hB);clear hA hB)
   exact a3p rfl w.heap.size ino0 rfl rfl A5.out rfl ⟨rfl,B5.out⟩
set_option maxRecDepth 100000 in
set_option maxHeartbeats 1600000 in
theorem b3t(w:World)(d:Value)(ss:List (List Int))(i:Int)(h:Dk w d ss)(hi:wf64 i):Calls Tryz.prog 57 #[d,.int .i64 i] w (Rt w (aggE (entAt ss i))):=by
 have A0:=ι (a9e w)
 have hb0:=a0a (Below.refl w.heap.size w) (.cells #[.bool false,.int .i64 0,.string { data := #[] },.int .i64 0] 119)
 obtain⟨i1,i2⟩:=rows.wf_i64 hi
 by_cases hin:0≤i∧i<24
 ·have e:entAt ss i=entOfV (secAt ss (17+i)):=by rw[entAt,if_pos hin]
  rw[e]
  have HT:=ι fun w' (hb:Below w.heap.size w w')=>a9k w' d ss (17+i) (h.later hb) (WalkArith.wf_i64 (by omega))
  have hS:=a0x h.secs.1 (17+i)
  have HI:=ι fun w=>b2l (secAt ss (17+i)) hS w
  have _h4:=True.intro
  obtain⟨j1,j2⟩:=hin
  obtain⟨W,hW⟩:∃W,w.alloc (.cells #[.bool false,.int .i64 0,.string { data := #[] },.int .i64 0] 119)=W:=⟨_,rfl⟩
  rw[hW] at hb0 A0
  have HB0:=ι hb0
  generalize entOfV (secAt ss (17+i))=x at *
  generalize entOfB (secAt ss (17+i))=xb at *
  generalize secAt ss (17+i)=s at *
  clear h hS e hb0
  go_enter Tryz.func57,Tryz.ntmps57
  go_upto_region 1 with fail
  clear hW
  go_wp2_with (first|(go_at_call 59;refine(HT.out _ HB0.out).mono ?_;rintro e w1 ⟨rfl,hb⟩;have B1:=ι (a0b HB0.out hb);have A1:=ι (A0.out.later hb);clear hb)|(go_at_call 108;refine(HI.out _).mono ?_;rintro e w3 ⟨rfl,hb⟩;have B3:=ι (a0b B1.out hb);have A3:=ι (A1.out.later hb);clear hb)|(refine a0n rfl (.tmp 5) (.tmp 20) rfl rfl w3.heap.size x ent0 rfl rfl (a9e w3) ?_;intro w4 hA hB _;have hb:=(a0a (Below.refl _ w3) _).trans hB;have B4:=ι (a0b B3.out hb);have A4:=ι (A3.out.later hb);have X4:=ι hA;clear hA hB hb)|(refine a0i rfl (.tmp 5) rfl w3.heap.size rfl x X4.out ?_)|(refine a0n rfl (.tmp 4) (.tmp 22) rfl rfl w.heap.size x ent0 rfl rfl A4.out ?_;intro w5 hA hB _;have A5:=ι hA;have B5:=ι (B4.out.trans hB);clear hA hB))
  exact a3o rfl w.heap.size x rfl A5.out rfl ⟨rfl,B5.out⟩
 ·have e:entAt ss i=ent0:=by rw[entAt,if_neg hin]
  rw[e]
  clear h e
  obtain⟨W,hW⟩:∃W,w.alloc (.cells #[.bool false,.int .i64 0,.string { data := #[] },.int .i64 0] 119)=W:=⟨_,rfl⟩
  rw[hW] at hb0 A0
  have HB0:=ι hb0
  clear hb0
  by_cases hz:i<0
  ·go_enter Tryz.func57,Tryz.ntmps57
   go_upto_region 1 with fail
   clear hW
   go_wp2_with (refine a0n rfl (.tmp 4) (.tmp 13) rfl rfl w.heap.size ent0 ent0 rfl rfl A0.out ?_;intro w5 hA hB _;have A5:=ι hA;have B5:=ι (HB0.out.trans hB);clear hA hB)
   exact a3o rfl w.heap.size ent0 rfl A5.out rfl ⟨rfl,B5.out⟩
  ·have hz2:24≤i:=by omega
   have hz0:0≤i:=by omega
   go_enter Tryz.func57,Tryz.ntmps57
   go_upto_region 1 with fail
   clear hW
   go_wp2_with (refine a0n rfl (.tmp 4) (.tmp 13) rfl rfl w.heap.size ent0 ent0 rfl rfl A0.out ?_;intro w5 hA hB _;have A5:=ι hA;have B5:=ι (HB0.out.trans hB);clear hA hB)
   exact a3o rfl w.heap.size ent0 rfl A5.out rfl ⟨rfl,B5.out⟩
end lk
namespace al
set_option maxRecDepth 100000
open Go.ChangeShapes Go.WideShapes Go.ChangeAt Go.RowKit
open rows
open sec
open ly
open lk
def boolsV(l:List Bool):List Value:=l.map .bool
end al
end Go.Proofs.YtjedjkjhodgidaaGreatDoor
