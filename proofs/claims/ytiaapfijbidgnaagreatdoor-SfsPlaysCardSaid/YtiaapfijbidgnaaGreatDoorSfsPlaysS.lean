/- What SfsPlays wants, part 19. -/
import Derived.Test.YtiaapfijbidgnaaGreatDoorSfsPlaysB
import Derived.Test.YtiaapfijbidgnaaGreatDoorSfsPlaysC
import Derived.Test.YtiaapfijbidgnaaGreatDoorSfsPlaysF
import Derived.Test.YtiaapfijbidgnaaGreatDoorSfsPlaysG
import Derived.Test.YtiaapfijbidgnaaGreatDoorSfsPlaysH
import Derived.Test.YtiaapfijbidgnaaGreatDoorSfsPlaysI
import Derived.Test.YtiaapfijbidgnaaGreatDoorSfsPlaysK
import Derived.Test.YtiaapfijbidgnaaGreatDoorSfsPlaysM
import Derived.Test.YtiaapfijbidgnaaGreatDoorSfsPlaysQ
import Derived.Test.YtiaapfijbidgnaaGreatDoorSfsPlaysR
import Derived.Outline
set_option linter.unusedVariables false
set_option linter.unusedSimpArgs false
namespace Go.Proofs.YtiaapfijbidgnaaGreatDoor
namespace lk
set_option maxRecDepth 100000
open Go.ChangeShapes Go.WideShapes Go.ChangeAt Go.RowKit
open rows
open sec
open dsk (wf64 St Wr CA seenOf readOf readR cread uread b4w a2l a5d a2s Keeps.of_below)
open ly
def Dk(w:World)(d:Value)(ss:List (List Int)):Prop:=(d = .pointer none∧ss=[])∨∃F st,CA w F d st∧st.fine∧seenOf st=ss
theorem CA.later'{w w':World}{F:Nat→Prop}{d:Value}{st:St}(h:CA w F d st)(hb:Below w.heap.size w w'):CA w' F d st:=by
 obtain⟨z,g,vs,vw,vn,vl,vf,hd,h⟩:=h
 exact⟨z,g,vs,vw,vn,vl,vf,hd,a2s h (Keeps.of_below hb)⟩
theorem Dk.later{w w':World}{d:Value}{ss:List (List Int)}(h:Dk w d ss)(hb:Below w.heap.size w w'):Dk w' d ss:=by
 rcases h with h|⟨F,st,h1,h2,h3⟩
 ·exact Or.inl h
 ·exact Or.inr ⟨F,st,CA.later' h1 hb,h2,h3⟩
theorem Dk.secs{w:World}{d:Value}{ss:List (List Int)}(h:Dk w d ss):Secs ss∧ss.length≤65:=by
 rcases h with⟨_,rfl⟩|⟨F,st,h1,h2,rfl⟩
 ·exact⟨fun s hs=>(by cases hs),Nat.zero_le _⟩
 ·exact⟨a5d h2,by rw[a2l];exact h2.n1⟩
def secAt(ss:List (List Int))(i:Int):List Int:=if 0≤i∧i<(ss.length:Int) then ss.getD i.toNat zero32 else zero32
theorem a1n{ss:List (List Int)}(h:Secs ss)(i:Int):Sec (secAt ss i):=by
 unfold secAt
 split
 ·rename_i hi
  have hl:i.toNat<ss.length:=by omega
  rw[show ss.getD i.toNat zero32=ss[i.toNat] by simp[List.getD,hl]]
  exact h _ (List.getElem_mem hl)
 ·exact a0p
theorem dread(w:World)(d:Value)(ss:List (List Int))(i:Int)(h:Dk w d ss)(hi:wf64 i) :
  Calls Tryz.prog 59 #[d,.int .i64 i] w (Rt w (.tuple #[agg (secAt ss i),.int .i64 (if 0≤i∧i<(ss.length:Int) then 0 else 1)])):=by
 rcases h with⟨rfl,rfl⟩|⟨F,st,h1,h2,rfl⟩
 ·have e:¬(0≤i∧i<(([]:List (List Int)).length:Int)):=by simp;try omega
  rw[secAt,if_neg e,if_neg e]
  exact uread (Or.inl rfl) i
 ·have h3:=cread w F d st i h1 h2 hi
  rw[readR] at h3
  rw[secAt,a2l]
  by_cases hin:0≤i∧i<(st.safe.length:Int)
  ·rw[if_pos hin] at h3
   rw[if_pos hin,if_pos hin]
   have hk:i.toNat<st.safe.length:=by omega
   have e:=b4w i.toNat st.wait st.safe (fun x hx=>(h2.pos x hx).1) hk
   have e2:(seenOf st).getD i.toNat zero32=readOf st i.toNat:=by
    have hl:i.toNat<(seenOf st).length:=by rw[a2l];exact hk
    have h1:some ((seenOf st)[i.toNat])=some (readOf st i.toNat):=(List.getElem?_eq_getElem _).symm.trans e
    rw[List.getD,List.getElem?_eq_getElem hl]
    exact Option.some.inj h1
   rw[e2]
   exact h3
  ·rw[if_neg hin] at h3
   rw[if_neg hin,if_neg hin]
   exact h3
def wr1(l:List (List Int))(x:Wr):List (List Int):=if 0≤x.pos∧x.pos<(l.length:Int) then l.set x.pos.toNat x.s else l
theorem wr1_len(l:List (List Int))(x:Wr):(wr1 l x).length=l.length:=by unfold wr1;split<;>simp
def over(ss:List (List Int))(ws:List Wr)(i:Nat):List (List Int):=(ws.take i).foldl wr1 ss
theorem a8i{ss:List (List Int)}{ws:List Wr}{i:Nat}(h:i<ws.length):over ss ws (i+1)=wr1 (over ss ws i) ws[i]:=by
 rw[over,List.take_succ_eq_append_getElem h,List.foldl_append];rfl
theorem a7v(ss:List (List Int))(ws:List Wr):∀i,i≤ws.length→(over ss ws i).length=ss.length
 | 0,_=>rfl
 | i+1,h=>by rw[a8i (show i<ws.length by omega),wr1_len,a7v ss ws i (by omega)]
end lk
namespace lk
set_option maxRecDepth 100000
open Go.ChangeShapes Go.WideShapes Go.ChangeAt Go.RowKit
open rows
open sec
open ly
theorem c6o{w:World}(b B:Nat)(e:TypeId)(sz:Nat)(hb:b=w.heap.size)(hB:B≤b):Own (w.alloc (.cells #[] e)) B e sz (.slice (some ⟨b,0,none⟩) 0 0) 0 []:=by
 subst hb;exact a4p w e sz hB
end lk
namespace lk
set_option maxRecDepth 100000
open Go.ChangeShapes Go.WideShapes Go.ChangeAt Go.RowKit
open rows
open sec
open dsk (wf64)
open ly
theorem d0w{ss:List (List Int)}{k:Nat}(h:k<ss.length):secAt ss (k:Int)=ss[k]:=by
 rw[secAt,if_pos (by omega)];simp[List.getD,h]
theorem c4o{ss:List (List Int)}{k:Nat}(h:ss.length≤k):secAt ss (k:Int)=zero32:=by rw[secAt,if_neg (by omega)]
theorem c6l(p:Option Addr)(n c:Nat)(ss:List (List Int))(w:World)(h:Rd w 32 (.slice p n c) n (cellsOf ss))(hs:Secs ss)(z:Int)(h0:0≤z)(h9:z≤1000)(hn:n≤100000) :
  Calls Tryz.prog 139 #[.slice p n c,.int .i64 z] w (Rt w (agg (secAt ss z))):=by
 obtain⟨k,rfl⟩:=Int.eq_ofNat_of_zero_le h0
 have hl:ss.length=n:=by have h:=h.cells;rw[a0y hs] at h;omega
 have A1:=ι (a1a w)
 have hni:(n:Int)≤100000:=by omega
 by_cases hk:k<n
 ·obtain⟨b,o,rfl,_,_,hb,_,hR⟩:=b0e h hs hk
  have HR:=ι (Rd.rangeLater (hR k (by omega)) hb (a0b (Below.refl w.heap.size w) (.cells (u8s zero32).toArray 95)))
  have HS:=ι (hs _ (List.getElem_mem (show k<ss.length by omega)))
  rw[d0w (by omega)]
  rw[← a0x] at HR
  generalize ss[k]=s at *
  clear hR h hs
  have hki:(k:Int)<n:=by omega
  go_enter Tryz.func139,Tryz.ntmps139
  go_upto_region 1 with fail
  go_wp2_with (first|(refine b4q rfl (.tmp 12) rfl b (o+k * 32) rfl s HS.out.1 HR.out ?_)|(refine a0j rfl _ _ rfl rfl w.heap.size s zero32 rfl rfl HS.out.1 (by decide) A1.out ?_;intro w4 hA hB4 _;have A4:=ι hA;clear hA))
  refine a4j rfl w.heap.size _ rfl HS.out.1 A4.out rfl ⟨rfl,?_⟩
  exact(a0b (Below.refl _ _) _).trans hB4
 ·rw[c4o (by omega)]
  have hki:(n:Int)≤k:=by omega
  clear h hs
  go_enter Tryz.func139,Tryz.ntmps139
  go_upto_region 1 with fail
  go_upto_region 2 with fail
  go_wp2_with (first|(refine a0j rfl (.tmp 4) (.tmp 9) rfl rfl w.heap.size zero32 zero32 rfl (congrArg Value.agg a0x) (by decide) (by decide) A1.out ?_;intro w4 hA hB4 _;have A4:=ι hA;clear hA))
  refine a4j rfl w.heap.size _ rfl (by decide) A4.out rfl ⟨rfl,?_⟩
  exact(a0b (Below.refl _ _) _).trans hB4
theorem a0r(w:World):AtI (w.alloc (.cells #[.int .i64 0,.int .i64 0,.int .i64 0,.int .i64 0,.int .i64 0,.int .i64 0] 119)) w.heap.size ino0:=a4n w ino0
theorem a4h(w:World):AtE (w.alloc (.cells #[.bool false,.int .i64 0,.string { data := #[] },.int .i64 0] 123)) w.heap.size ent0:=a1f w ent0
theorem a6p{fn:Func}{p:Tmp}{R:Ending→World→Prop}{a:Act}{w:World}(h:fn.results = #[.cell p 119])(g:Nat)(x:Ino)(hp:a.tmps.getD p undef = .pointer (some ⟨g,0,none⟩))(hx:x.b.length=4)(hg:AtI w g x)
  (hd:a.defers=[]) (hR:R (.returned (aggI x)) w):bodyPost Tryz.prog fn R .ret a w :=
 bodyPost_ret (results_cell_row h a.tmps w g _ _ _ _ hp hg a8q rfl (by rw[a5f];simp[a3w hx])) hd hR
theorem a5t{fn:Func}{p:Tmp}{R:Ending→World→Prop}{a:Act}{w:World}(h:fn.results = #[.cell p 123])(g:Nat)(x:Ent)(hp:a.tmps.getD p undef = .pointer (some ⟨g,0,none⟩))(hg:AtE w g x)
  (hd:a.defers=[]) (hR:R (.returned (aggE x)) w):bodyPost Tryz.prog fn R .ret a w :=
 bodyPost_ret (results_cell_row h a.tmps w g _ _ _ _ hp hg b4t rfl (by rw[a6l];rfl)) hd hR
def inoAt(ss:List (List Int))(i:Int):Ino:=if 0≤i∧i<16 then inoOfV (secAt ss (1+i)) else ino0
def entAt(ss:List (List Int))(k:Int):Ent:=if 0≤k∧k<24 then entOfV (secAt ss (17+k)) else ent0
theorem a1m{ss:List (List Int)}(hs:Secs ss)(i:Int):(inoAt ss i).b.length=4:=by
 unfold inoAt
 split
 ·exact a5q (a1n hs _)
 ·rfl
set_option maxHeartbeats 1600000 in
theorem a5o(p:Option Addr)(n c:Nat)(ss:List (List Int))(w:World)(h:Rd w 32 (.slice p n c) n (cellsOf ss))(hs:Secs ss)(hn:n≤100000)(i:Int)(hi:wf64 i) :
  Calls Tryz.prog 73 #[.slice p n c,.int .i64 i] w (Rt w (aggI (inoAt ss i))):=by
 have A0:=ι (a0r w)
 have hb0:=a0b (Below.refl w.heap.size w) (.cells #[.int .i64 0,.int .i64 0,.int .i64 0,.int .i64 0,.int .i64 0,.int .i64 0] 119)
 have HR:=h.later hb0
 obtain⟨i1,i2⟩:=rows.wf_i64 hi
 by_cases hin:0≤i∧i<16
 ·have e:inoAt ss i=inoOfV (secAt ss (1+i)):=by rw[inoAt,if_pos hin]
  rw[e]
  have HT:=c6l p n c ss _ HR hs (1+i) (by omega) (by omega) hn
  have hS:=a1n hs (1+i)
  have HI:=ι fun w=>a9m (secAt ss (1+i)) hS w
  have H4:=ι (a5q hS)
  obtain⟨j1,j2⟩:=hin
  obtain⟨W,hW⟩:∃W,w.alloc (.cells #[.int .i64 0,.int .i64 0,.int .i64 0,.int .i64 0,.int .i64 0,.int .i64 0] 119)=W:=⟨_,rfl⟩
  rw[hW] at HT hb0 A0
  have HT':=ι HT
  have HB0:=ι hb0
  generalize inoOfV (secAt ss (1+i))=x at *
  generalize inoOfB (secAt ss (1+i))=xb at *
  generalize secAt ss (1+i)=s at *
  clear HT HR h hs hS e hb0
  go_enter Tryz.func73,Tryz.ntmps73
  go_upto_region 1 with fail
  clear hW
  go_wp2_with (first|(go_at_call 139;refine HT'.out.mono ?_;rintro e w1 ⟨rfl,hb⟩;have B1:=ι (a0a HB0.out hb);have A1:=ι (A0.out.later hb);clear hb)|(go_at_call 129;refine(HI.out _).mono ?_;rintro e w2 ⟨rfl,hb⟩;have B2:=ι (a0a B1.out hb);have A2:=ι (A1.out.later hb);clear hb)|(refine a0f rfl (.tmp 5) (.tmp 20) rfl rfl w2.heap.size x ino0 rfl rfl H4.out rfl (a0r w2) ?_;intro w3 hA hB _;have hb:=(a0b (Below.refl _ w2) _).trans hB;have B3:=ι (a0a B2.out hb);have A3:=ι (A2.out.later hb);have X3:=ι hA;clear hA hB hb)|(refine a0s rfl (.tmp 5) rfl w2.heap.size rfl x H4.out X3.out ?_)|(refine a0f rfl (.tmp 4) (.tmp 22) rfl rfl w.heap.size x ino0 rfl rfl H4.out rfl A3.out ?_;intro w4 hA hB _;have A4:=ι hA;have B4:=ι (B3.out.trans hB);clear hA hB))
  exact a6p rfl w.heap.size x rfl H4.out A4.out rfl ⟨rfl,B4.out⟩
 ·have e:inoAt ss i=ino0:=by rw[inoAt,if_neg hin]
  rw[e]
  clear HR h hs e
  by_cases hz:i<0
  ·go_enter Tryz.func73,Tryz.ntmps73
   go_wp2_with fail
   exact a6p rfl w.heap.size ino0 rfl rfl A0.out rfl ⟨rfl,hb0⟩
  ·have hz2:16≤i:=by omega
   have hz0:0≤i:=by omega
   go_enter Tryz.func73,Tryz.ntmps73
   go_wp2_with fail
   exact a6p rfl w.heap.size ino0 rfl rfl A0.out rfl ⟨rfl,hb0⟩
set_option maxHeartbeats 1600000 in
theorem a4q(p:Option Addr)(n c:Nat)(ss:List (List Int))(w:World)(h:Rd w 32 (.slice p n c) n (cellsOf ss))(hs:Secs ss)(hn:n≤100000)(i:Int)(hi:wf64 i) :
  Calls Tryz.prog 72 #[.slice p n c,.int .i64 i] w (Rt w (aggE (entAt ss i))):=by
 have A0:=ι (a4h w)
 have hb0:=a0b (Below.refl w.heap.size w) (.cells #[.bool false,.int .i64 0,.string { data := #[] },.int .i64 0] 123)
 have HR:=h.later hb0
 obtain⟨i1,i2⟩:=rows.wf_i64 hi
 by_cases hin:0≤i∧i<24
 ·have e:entAt ss i=entOfV (secAt ss (17+i)):=by rw[entAt,if_pos hin]
  rw[e]
  have HT:=c6l p n c ss _ HR hs (17+i) (by omega) (by omega) hn
  have hS:=a1n hs (17+i)
  have HI:=ι fun w=>b6c (secAt ss (17+i)) hS w
  obtain⟨j1,j2⟩:=hin
  obtain⟨W,hW⟩:∃W,w.alloc (.cells #[.bool false,.int .i64 0,.string { data := #[] },.int .i64 0] 123)=W:=⟨_,rfl⟩
  rw[hW] at HT hb0 A0
  have HT':=ι HT
  have HB0:=ι hb0
  generalize entOfV (secAt ss (17+i))=x at *
  generalize entOfB (secAt ss (17+i))=xb at *
  generalize secAt ss (17+i)=s at *
  clear HT HR h hs hS e hb0
  go_enter Tryz.func72,Tryz.ntmps72
  go_upto_region 1 with fail
  clear hW
  go_wp2_with (first|(go_at_call 139;refine HT'.out.mono ?_;rintro e w1 ⟨rfl,hb⟩;have B1:=ι (a0a HB0.out hb);have A1:=ι (A0.out.later hb);clear hb)|(go_at_call 138;refine(HI.out _).mono ?_;rintro e w2 ⟨rfl,hb⟩;have B2:=ι (a0a B1.out hb);have A2:=ι (A1.out.later hb);clear hb)|(refine a0v rfl (.tmp 5) (.tmp 20) rfl rfl w2.heap.size x ent0 rfl rfl (a4h w2) ?_;intro w3 hA hB _;have hb:=(a0b (Below.refl _ w2) _).trans hB;have B3:=ι (a0a B2.out hb);have A3:=ι (A2.out.later hb);have X3:=ι hA;clear hA hB hb)|(refine a0t rfl (.tmp 5) rfl w2.heap.size rfl x X3.out ?_)|(refine a0v rfl (.tmp 4) (.tmp 22) rfl rfl w.heap.size x ent0 rfl rfl A3.out ?_;intro w4 hA hB _;have A4:=ι hA;have B4:=ι (B3.out.trans hB);clear hA hB))
  exact a5t rfl w.heap.size x rfl A4.out rfl ⟨rfl,B4.out⟩
 ·have e:entAt ss i=ent0:=by rw[entAt,if_neg hin]
  rw[e]
  clear HR h hs e
  by_cases hz:i<0
  ·go_enter Tryz.func72,Tryz.ntmps72
   go_wp2_with fail
   exact a5t rfl w.heap.size ent0 rfl A0.out rfl ⟨rfl,hb0⟩
  ·have hz2:24≤i:=by omega
   have hz0:0≤i:=by omega
   go_enter Tryz.func72,Tryz.ntmps72
   go_wp2_with fail
   exact a5t rfl w.heap.size ent0 rfl A0.out rfl ⟨rfl,hb0⟩
end lk
namespace lk
set_option maxRecDepth 100000
open Go.ChangeShapes Go.WideShapes Go.ChangeAt Go.RowKit
open rows
open sec
open dsk (wf64)
open ly
def namedIn(ss:List (List Int))(i:Int)(k:Nat):Bool:=(List.range k).any fun j=>(entAt ss (j:Int)).used && decide ((entAt ss (j:Int)).target=i)
theorem a6a(ss:List (List Int))(i:Int)(k:Nat):namedIn ss i (k+1)=(namedIn ss i k || ((entAt ss (k:Int)).used && decide ((entAt ss (k:Int)).target=i))):=by
 rw[namedIn,List.range_succ,List.any_append];simp[namedIn]
theorem a9i{ss:List (List Int)}{i:Int}{k:Nat}(h:namedIn ss i k=true):∀m,k≤m→namedIn ss i m=true
 | 0,hm=>by
   obtain rfl:k=0:=by omega
   exact h
 | m+1,hm=>by
  by_cases e:k=m+1
  ·rw[← e];exact h
  ·rw[a6a,a9i h m (by omega)];rfl
def takenB(ss:List (List Int))(i:Int):Bool:=namedIn ss i 24 || decide (i=0)
set_option maxHeartbeats 1600000 in
theorem b3m(p:Option Addr)(n c:Nat)(ss:List (List Int))(w:World)(h:Rd w 32 (.slice p n c) n (cellsOf ss))(hs:Secs ss)(hn:n≤100000)(i:Int)(hi:wf64 i) :
  Calls Tryz.prog 131 #[.slice p n c,.int .i64 i] w (Rt w (.bool (takenB ss i))):=by
 have HE:=ι fun(k:Nat) (hk:k≤24) w' (hb:Below w.heap.size w w')=>a4q p n c ss w' (h.later hb) hs hn (k:Int) (WalkArith.wf_i64 (by omega))
 obtain⟨i1,i2⟩:=rows.wf_i64 hi
 clear h hs hi
 go_enter Tryz.func131,Tryz.ntmps131
 go_wp2_with fail
 go_loopw [5] (fun kv wr=>∃k:Nat,k≤24∧kv = .int .i64 (k:Int)∧Hid (namedIn ss i k=false)∧Hid (Below w.heap.size w wr)) (fun kv _=>24-(intOf kv).toNat)
 case atStart=>exact⟨0,by omega,rfl,ι rfl,ι (Below.refl _ _)⟩
 case round =>
  obtain⟨k,hk,rfl,HN,HB⟩:=hrel
  by_cases hlt:k<24
  ·have hlti:(k:Int)<24:=by omega
   have HEk:=ι (HE.out k (by omega) wr HB.out)
   have HS:=ι (a6a ss i k)
   have HM:=ι fun h=>a9i (ss:=ss) (i:=i) (k:=k+1) h 24 (by omega)
   generalize entAt ss (k:Int)=x at HEk HS
   obtain⟨u,pa,nm,tg⟩:=x
   simp only at HEk HS
   cases u with
   | false =>
    have HN1:Hid (namedIn ss i (k+1)=false):=ι (by rw[HS.out,HN.out];rfl)
    clear HS
    go_wp2_with (go_at_call 72;refine HEk.out.mono ?_;rintro e w1 ⟨rfl,hb⟩;have B1:=ι (a0a HB.out hb);clear hb)
    go_roundw
    case rel=>exact⟨k+1,by omega,by go_num,HN1,ι (a0b B1.out _)⟩
    case measure=>simp[intOf];omega
   | true =>
    by_cases ht:tg=i
    ·have HT:Hid (takenB ss i=true):=ι (by rw[takenB,HM.out (by rw[HS.out,ht];simp)];rfl)
     have hte:(tg == i)=true:=by rw[ht];simp
     subst ht
     clear HS HM
     go_wp2_with (go_at_call 72;refine HEk.out.mono ?_;rintro e w1 ⟨rfl,hb⟩;have B1:=ι (a0a HB.out hb);clear hb)
     go_ret
     exact⟨by rw[HT.out];rfl,a0b B1.out _⟩
    ·have HN1:Hid (namedIn ss i (k+1)=false):=ι (by rw[HS.out,HN.out,decide_eq_false ht];rfl)
     have hte:(tg == i)=false:=beq_eq_false_iff_ne.2 ht
     clear HS HM ht
     go_wp2_with (go_at_call 72;refine HEk.out.mono ?_;rintro e w1 ⟨rfl,hb⟩;have B1:=ι (a0a HB.out hb);clear hb)
     go_roundw
     case rel=>exact⟨k+1,by omega,by go_num,HN1,ι (a0b B1.out _)⟩
     case measure=>simp[intOf];omega
  ·obtain rfl:k=24:=by omega
   have HT:Hid (takenB ss i=decide (i=0)):=ι (by rw[takenB,HN.out];rfl)
   go_wp2_with fail
   go_ret
   exact⟨by rw[HT.out,show decide (i=0)=(i == 0) by rw[Bool.eq_iff_iff];simp];rfl,HB.out⟩
end lk
namespace lk
set_option maxRecDepth 100000
open Go.ChangeShapes Go.WideShapes Go.ChangeAt Go.RowKit
def upto(p:Nat→Bool)(k:Nat):Option Nat:=(List.range k).find? p
theorem upto_succ(p:Nat→Bool)(k:Nat):upto p (k+1)=(upto p k).or (if p k then some k else none):=by
 rw[upto,List.range_succ,List.find?_append]
 cases h:p k<;>simp[upto,h]
theorem b0j{p:Nat→Bool}{k:Nat}(h:upto p k=none)(hk:p k=false):upto p (k+1)=none:=by rw[upto_succ,h,hk];rfl
theorem a6u{p:Nat→Bool}{k:Nat}(h:upto p k=none)(hk:p k=true):∀m,k<m→upto p m=some k
 | 0,hm=>by omega
 | m+1,hm=>by
  rw[upto_succ]
  by_cases e:k=m
  ·subst e;rw[h,hk];rfl
  ·rw[a6u h hk m (by omega)];rfl
theorem upto_none{p:Nat→Bool}{k:Nat}:upto p k=none↔∀i,i<k→p i=false:=by
 simp[upto,List.find?_eq_none]
theorem a2z{p:Nat→Bool}{k i:Nat}(h:upto p k=some i):i<k∧p i=true∧∀j,j<i→p j=false:=by
 induction k with
 | zero=>cases h
 | succ k ih =>
  rw[upto_succ] at h
  cases hu:upto p k with
  | some j =>
   rw[hu] at h
   obtain rfl:j=i:=Option.some.inj h
   obtain⟨h1,h2,h3⟩:=ih hu
   exact⟨by omega,h2,h3⟩
  | none =>
   rw[hu] at h
   cases hk:p k with
   | false=>rw[hk] at h;cases h
   | true =>
    rw[hk] at h
    obtain rfl:k=i:=Option.some.inj h
    exact⟨by omega,hk,upto_none.1 hu⟩
def optV(o:Option Nat):Value := .tuple #[.int .i64 ((o.getD 0:Nat):Int),.bool o.isSome]
def cntU(p:Nat→Bool):Nat→Nat
 | 0=>0
 | k+1=>if p k then cntU p k+1 else cntU p k
theorem b8x(p:Nat→Bool):∀k,cntU p k≤k
 | 0=>Nat.le_refl _
 | k+1=>by
  have:=b8x p k
  rw[cntU]
  split<;>omega
theorem b7b{p q:Nat→Bool}:∀{k:Nat},(∀i,i<k→p i=true→q i=true)→cntU p k≤cntU q k
 | 0,_=>Nat.le_refl _
 | k+1,h=>by
  have ih:=b7b (p:=p) (q:=q) (k:=k) fun i hi=>h i (by omega)
  rw[cntU,cntU]
  cases hp:p k with
  | true=>rw[h k (by omega) hp,if_pos rfl,if_pos rfl];omega
  | false =>
   rw[if_neg (by decide)]
   split<;>omega
theorem b7o{p q:Nat→Bool}:∀{k:Nat},(∀i,i<k→p i=true→q i=true)→(∃i,i<k∧q i=true∧p i=false)→cntU p k<cntU q k
 | 0,_,⟨i,hi,_⟩=>by omega
 | k+1,h,⟨i,hi,hq,hp⟩=>by
  have hm:=b7b (p:=p) (q:=q) (k:=k) fun i hi=>h i (by omega)
  rw[cntU,cntU]
  by_cases e:i=k
  ·subst e
   rw[hq,hp,if_pos rfl,if_neg (by decide)];omega
  ·have ih:=b7o (p:=p) (q:=q) (k:=k) (fun i hi=>h i (by omega)) ⟨i,by omega,hq,hp⟩
   cases hpk:p k with
   | true=>rw[h k (by omega) hpk,if_pos rfl,if_pos rfl];omega
   | false =>
    rw[if_neg (by decide)]
    split<;>omega
end lk
namespace pa
set_option maxRecDepth 100000
end pa
namespace al
end al
namespace lk
open Go.ChangeShapes Go.WideShapes Go.ChangeAt Go.RowKit
open rows
open sec
open dsk (wf64 a0c)
open ly
open pa
def standB(ss:List (List Int))(k:Nat):Bool:=(entAt ss (k:Int)).used && !decide ((inoAt ss (entAt ss (k:Int)).target).kind=0)
def inB(ss:List (List Int))(d:Int)(nm:ByteArray)(k:Nat):Bool:=standB ss k && decide ((entAt ss (k:Int)).parent=d) && decide ((entAt ss (k:Int)).name=nm)
def findO(ss:List (List Int))(d:Int)(nm:ByteArray):Option Nat:=upto (inB ss d nm) 24
def lookG(ss:List (List Int)):Int→List (List Int)→Int×Int
 | n,[]=>(n,0)
 | n,x::r=>if (inoAt ss n).kind=2 then (match findO ss n (strOfNums x) with
  | some k=>lookG ss (entAt ss (k:Int)).target r
  | none=>(0,4)) else (0,6)
def lookV(ss:List (List Int))(s:List Int):Int×Int:=match splitL s with
 | none=>(0,9)
 | some ns=>lookG ss 0 ns
theorem b3f{ss:List (List Int)}{n:Int}{x:List Int}{r:List (List Int)}(h:(inoAt ss n).kind≠2):lookG ss n (x::r)=(0,6):=by rw[lookG,if_neg h]
theorem b2l{ss:List (List Int)}{n:Int}{x:List Int}{r:List (List Int)}(h:(inoAt ss n).kind=2)(hf:findO ss n (strOfNums x)=none):lookG ss n (x::r)=(0,4):=by rw[lookG,if_pos h,hf]
theorem b3c{ss:List (List Int)}{n:Int}{x:List Int}{r:List (List Int)}{k:Nat}(h:(inoAt ss n).kind=2)(hf:findO ss n (strOfNums x)=some k):lookG ss n (x::r)=lookG ss (entAt ss (k:Int)).target r:=by rw[lookG,if_pos h,hf]
theorem a3x{ss:List (List Int)}(hs:Secs ss)(k:Int):0≤(entAt ss k).parent∧(entAt ss k).parent≤255∧0≤(entAt ss k).target∧(entAt ss k).target≤255:=by
 have f0:0≤ent0.parent∧ent0.parent≤255∧0≤ent0.target∧ent0.target≤255:=by decide
 unfold entAt
 split
 ·have hS:=a1n hs (17+k)
  rw[entOfV]
  split
  ·have h1:=a1c hS 1
   have h2:=a1c hS 2
   simp only[entC]
   omega
  ·exact f0
 ·exact f0
theorem b1k{l:List Int}(h:l.length=4):∃a b c d,l=[a,b,c,d]:=by
 match l,h with
 | [a,b,c,d],_=>exact⟨a,b,c,d,rfl⟩
theorem fieldI0(x:Ino)(h:x.b.length=4)(w:World):(Instr.field 119 (aggI x) 0).run Tryz.prog w = .ok (.int .i64 x.kind) w:=by
 obtain⟨kd,sz,bl⟩:=x
 obtain⟨a,b,c,d,rfl⟩:=b1k h
 kernel_rfl
theorem fieldE3(x:Ent)(w:World):(Instr.field 123 (aggE x) 3).run Tryz.prog w = .ok (.int .i64 x.target) w:=by
 obtain⟨u,pa,nm,tg⟩:=x
 kernel_rfl
set_option maxHeartbeats 1600000 in
theorem b0r(p:Option Addr)(n c:Nat)(ss:List (List Int))(w:World)(h:Rd w 32 (.slice p n c) n (cellsOf ss))(hs:Secs ss)(hn:n≤100000)(k:Nat)(hk:k<24) :
  Calls Tryz.prog 142 #[.slice p n c,.int .i64 (k:Int)] w (Rt w (.bool (standB ss k))):=by
 have HE:=ι (a4q p n c ss w h hs hn (k:Int) (a0h (by omega)))
 have hf:=a3x hs (k:Int)
 have HI:=ι fun w' (hb:Below w.heap.size w w')=>a5o p n c ss w' (h.later hb) hs hn (entAt ss (k:Int)).target (a0h (by omega))
 have H4:=ι (a1m hs (entAt ss (k:Int)).target)
 have HS:Hid (standB ss k=((entAt ss (k:Int)).used && !decide ((inoAt ss (entAt ss (k:Int)).target).kind=0))):=ι rfl
 generalize inoAt ss (entAt ss (k:Int)).target=y at HI H4 HS
 generalize entAt ss (k:Int)=x at HE HI HS
 obtain⟨u,pa,nm,tg⟩:=x
 simp only at HS
 clear hf h hs hn
 cases u with
 | false =>
  go_enter Tryz.func142,Tryz.ntmps142
  go_wp2_with (go_at_call 72;refine HE.out.mono ?_;rintro e w1 ⟨rfl,hb⟩;have B1:=ι hb;clear hb)
  go_ret
  exact⟨by rw[HS.out];rfl,a0b B1.out _⟩
 | true =>
  have hf1:=fieldI0 y H4.out
  obtain⟨kd,hkd⟩:∃kd,y.kind=kd:=⟨_,rfl⟩
  rw[hkd] at HS hf1
  generalize aggI y=yv at HI hf1
  clear hkd H4
  have HS2:Hid (standB ss k = !decide (kd=0)):=ι (by rw[HS.out];rfl)
  go_enter Tryz.func142,Tryz.ntmps142
  go_wp2_with (first|(go_at_call 72;refine HE.out.mono ?_;rintro e w1 ⟨rfl,hb⟩;have B1:=ι hb;clear hb)|(go_at_call 73;refine(HI.out _ (a0b B1.out _)).mono ?_;rintro e w2 ⟨rfl,hb⟩;have B2:=ι (a0a (a0b B1.out _) hb);clear hb))
  go_ret
  exact⟨by rw[HS2.out,show (!decide (kd=0))=(kd != 0) by rw[Bool.eq_iff_iff];simp];rfl,B2.out⟩
set_option maxHeartbeats 1600000 in
theorem b6n(p:Option Addr)(n c:Nat)(ss:List (List Int))(w:World)(h:Rd w 32 (.slice p n c) n (cellsOf ss))(hs:Secs ss)(hn:n≤100000)(d:Int)(hd:wf64 d)(nm:ByteArray) :
  Calls Tryz.prog 130 #[.slice p n c,.int .i64 d,.string nm] w (Rt w (optV (findO ss d nm))):=by
 have HE:=ι fun(k:Nat) (hk:k≤24) w' (hb:Below w.heap.size w w')=>a4q p n c ss w' (h.later hb) hs hn (k:Int) (a0h (by omega))
 have HT:=ι fun(k:Nat) (hk:k<24) w' (hb:Below w.heap.size w w')=>b0r p n c ss w' (h.later hb) hs hn k hk
 obtain⟨d1,d2⟩:=rows.wf_i64 hd
 clear h hs hd
 go_enter Tryz.func130,Tryz.ntmps130
 go_wp2_with fail
 go_loopw [8,9] (fun kv _ wr=>∃k:Nat,k≤24∧kv = .int .i64 (k:Int)∧Hid (upto (inB ss d nm) k=none)∧Hid (Below w.heap.size w wr)) (fun kv _ _=>24-(intOf kv).toNat)
 case atStart=>exact⟨0,by omega,rfl,ι rfl,ι (Below.refl _ _)⟩
 case round =>
  obtain⟨k,hk,rfl,HN,HB⟩:=hrel
  by_cases hlt:k<24
  ·have hlti:(k:Int)<24:=by omega
   have HEk:=ι (HE.out k (by omega) wr HB.out)
   have HTk:=ι (HT.out k hlt)
   have HM:=ι fun hf=>b0j (p:=inB ss d nm) HN.out hf
   have HH:=ι fun ht=>a6u (p:=inB ss d nm) HN.out ht 24 (by omega)
   have HI:Hid (inB ss d nm k=(standB ss k && decide ((entAt ss (k:Int)).parent=d) && decide ((entAt ss (k:Int)).name=nm))):=ι rfl
   generalize inB ss d nm k=ib at HM HH HI
   generalize standB ss k=st at HTk HI
   generalize entAt ss (k:Int)=x at HEk HI
   obtain⟨u,pa,nx,tg⟩:=x
   simp only at HI
   cases st with
   | false =>
    have HN1:=ι (HM.out (by rw[HI.out];rfl))
    clear HM HH HI
    go_wp2_with (first|(go_at_call 72;refine HEk.out.mono ?_;rintro e w1 ⟨rfl,hb⟩;have B1:=ι (a0a HB.out hb);clear hb)|(go_at_call 142;refine(HTk.out _ (a0b B1.out _)).mono ?_;rintro e w2 ⟨rfl,hb⟩;have B2:=ι (a0a (a0b B1.out _) hb);clear hb))
    go_roundw
    case rel=>exact⟨k+1,by omega,by go_num,HN1,B2⟩
    case measure=>simp[intOf];omega
   | true =>
    by_cases hp:pa=d
    ·subst hp
     by_cases hx:nx=nm
     ·have HZ:Hid (findO ss pa nm=some k):=HH.out (by rw[HI.out,decide_eq_true hx,decide_eq_true rfl];rfl)
      subst hx
      clear HM HH HI
      go_wp2_with (first|(go_at_call 72;refine HEk.out.mono ?_;rintro e w1 ⟨rfl,hb⟩;have B1:=ι (a0a HB.out hb);clear hb)|(go_at_call 142;refine(HTk.out _ (a0b B1.out _)).mono ?_;rintro e w2 ⟨rfl,hb⟩;have B2:=ι (a0a (a0b B1.out _) hb);have hA:=(AtE.later (a1f w1 ⟨u,pa,nx,tg⟩) hb);have hc1:=a0c hA 1 _ rfl;have hc2:=a0c hA 2 _ rfl;clear hb hA))
      go_ret2
      exact⟨by rw[HZ.out];rfl,B2.out⟩
     ·have HN1:=ι (HM.out (by rw[HI.out,decide_eq_false hx,Bool.and_false]))
      have hxl:(nx.toList == nm.toList)=false:=by
       rw[beq_eq_false_iff_ne]
       intro e
       exact hx (by
        have h2:nx.data.toList=nm.data.toList:=by rw[← ByteArray.toList_eq,← ByteArray.toList_eq];exact e
        cases nx;cases nm
        simpa using h2)
      clear HM HH HI hx
      go_wp2_with (first|(go_at_call 72;refine HEk.out.mono ?_;rintro e w1 ⟨rfl,hb⟩;have B1:=ι (a0a HB.out hb);clear hb)|(go_at_call 142;refine(HTk.out _ (a0b B1.out _)).mono ?_;rintro e w2 ⟨rfl,hb⟩;have B2:=ι (a0a (a0b B1.out _) hb);have hA:=(AtE.later (a1f w1 ⟨u,pa,nx,tg⟩) hb);have hc1:=a0c hA 1 _ rfl;have hc2:=a0c hA 2 _ rfl;clear hb hA))
      go_roundw
      case rel=>exact⟨k+1,by omega,by go_num,HN1,B2⟩
      case measure=>simp[intOf];omega
    ·have HN1:=ι (HM.out (by rw[HI.out,decide_eq_false hp,Bool.and_false];rfl))
     have hpb:(pa == d)=false:=beq_eq_false_iff_ne.2 hp
     clear HM HH HI hp
     go_wp2_with (first|(go_at_call 72;refine HEk.out.mono ?_;rintro e w1 ⟨rfl,hb⟩;have B1:=ι (a0a HB.out hb);clear hb)|(go_at_call 142;refine(HTk.out _ (a0b B1.out _)).mono ?_;rintro e w2 ⟨rfl,hb⟩;have B2:=ι (a0a (a0b B1.out _) hb);have hA:=(AtE.later (a1f w1 ⟨u,pa,nx,tg⟩) hb);have hc1:=a0c hA 1 _ rfl;clear hb hA))
     go_roundw
     case rel=>exact⟨k+1,by omega,by go_num,HN1,B2⟩
     case measure=>simp[intOf];omega
  ·obtain rfl:k=24:=by omega
   have HZ:Hid (findO ss d nm=none):=HN
   go_wp2_with fail
   go_ret2
   exact⟨by rw[HZ.out];rfl,HB.out⟩
theorem b4z{ss:List (List Int)}{s:List Int}(h:splitL s=none):lookV ss s=(0,9):=by rw[lookV,h]
theorem b5e{ss:List (List Int)}{s:List Int}{ns:List (List Int)}(h:splitL s=some ns):lookV ss s=lookG ss 0 ns:=by rw[lookV,h]
theorem a2h:optV none = .tuple #[.int .i64 0,.bool false]:=rfl
theorem a2i(k:Nat):optV (some k) = .tuple #[.int .i64 (k:Int),.bool true]:=rfl
def lookT(x:Int×Int):Value := .tuple #[.int .i64 x.1,.int .i64 x.2]
theorem b0b{ss:List (List Int)}{d:Int}{nm:ByteArray}{k:Nat}(h:findO ss d nm=some k):k<24:=(a2z h).1
set_option maxHeartbeats 3200000 in
set_option maxRecDepth 100000 in
theorem a7g(p:Option Addr)(n c:Nat)(ss:List (List Int))(w:World)(h:Rd w 32 (.slice p n c) n (cellsOf ss))(hs:Secs ss)(hn:n≤100000)(s:ByteArray)(hsz:s.size≤100000) :
  Calls Tryz.prog 82 #[.slice p n c,.string s] w (Rt w (lookT (lookV ss (bys s)))):=by
 have HSP:=ι (a5b s w hsz)
 have HI:=ι fun(i:Int) (hi:wf64 i) w' (hb:Below w.heap.size w w')=>a5o p n c ss w' (h.later hb) hs hn i hi
 have HE:=ι fun(k:Nat) (hk:k<24) w' (hb:Below w.heap.size w w')=>a4q p n c ss w' (h.later hb) hs hn (k:Int) (a0h (by omega))
 have HF:=ι fun(d:Int) (hd:wf64 d) (nm:ByteArray) w' (hb:Below w.heap.size w w')=>b6n p n c ss w' (h.later hb) hs hn d hd nm
 have H4:=ι fun i=>a1m hs i
 have HG:=ι fun k=>a3x hs k
 clear h hs hn hsz
 cases hsp:splitL (bys s) with
 | none =>
  have HV:=ι (b4z (ss:=ss) hsp)
  have E1:Hid (errS (bys s)=9):=ι (by simp[errS,hsp])
  clear hsp
  go_enter Tryz.func82,Tryz.ntmps82
  go_wp2_with (go_at_call 136;refine HSP.out.mono ?_;rintro e w1 ⟨q,m,c1,rfl,hm,hr,hb⟩;rw[E1.out];have B1:=ι hb;clear hb hm hr)
  go_ret2
  exact⟨by rw[HV.out];rfl,B1.out⟩
 | some ns =>
  have HV:=ι (b5e (ss:=ss) hsp)
  have E1:Hid (errS (bys s)=0∧nms (bys s)=ns):=ι (by simp[errS,nms,hsp])
  have hl4:=(a1h hsp).2.2.1
  clear hsp
  go_enter Tryz.func82,Tryz.ntmps82
  go_upto_region 5 with(go_at_call 136;refine HSP.out.mono ?_;rintro e w1 ⟨q,m,c1,rfl,hm,hr,hb⟩;rw[E1.out.1];rw[E1.out.2] at hm hr;have HM:=ι hm;have HR:=ι hr;have B1:=ι hb;clear hb hm hr)
  have hm4:(m:Int)≤4:=by have:=HM.out;omega
  go_wp2_with fail
  go_loopw [8,9,10,11] (fun nv iv _ _ wr=>∃(i:Nat) (z:Int),i≤m∧iv = .int .i64 (i:Int)∧nv = .int .i64 z∧0≤z∧z≤255∧Hid (lookG ss 0 ns=lookG ss z (ns.drop i))∧Hid (Below w1.heap.size w1 wr)) (fun _ iv _ _ _=>m-(intOf iv).toNat)
  case atStart=>exact⟨0,0,by omega,rfl,rfl,by omega,by omega,ι rfl,ι (Below.refl _ _)⟩
  case round =>
   obtain⟨i,z,hi,rfl,rfl,hz0,hz1,HL,HB⟩:=hrel
   by_cases hlt:i<m
   ·have hlti:(i:Int)<m:=by omega
    obtain⟨b,o,rfl,_,_,hbl,hll,hcell⟩:=a9o (HR.out.later HB.out) hlt
    have hc1:=hcell i hlt
    have HC:=ι fun w' (hw:Below wr.heap.size wr w')=>(hw.cell (p:=⟨b,o+i,none⟩) hbl).trans hc1
    have HD:Hid (ns.drop i=ns.getD i []::ns.drop (i+1)):=ι (by
     have hx:i<ns.length:=by omega
     rw[List.drop_eq_getElem_cons hx]
     simp[List.getD,hx])
    have HIk:=ι (HI.out z (a0h (by omega)) wr (a0a B1.out HB.out))
    have hf1:=fieldI0 (inoAt ss z) (H4.out z)
    have HK:=ι fun x r (hne:(inoAt ss z).kind≠2)=>b3f (ss:=ss) (n:=z) (x:=x) (r:=r) hne
    have HNo:=ι fun x r he hf=>b2l (ss:=ss) (n:=z) (x:=x) (r:=r) he hf
    have HSo:=ι fun x r k he hf=>b3c (ss:=ss) (n:=z) (x:=x) (r:=r) (k:=k) he hf
    generalize ns.getD i []=x at hc1 HC HD
    have HFk:=ι fun w' hb=>HF.out z (a0h (by omega)) (strOfNums x) w' hb
    obtain⟨kd,hkd⟩:∃kd,(inoAt ss z).kind=kd:=⟨_,rfl⟩
    rw[hkd] at hf1 HK HNo HSo
    generalize aggI (inoAt ss z)=yv at HIk hf1
    clear hkd hcell hc1 hbl hll
    by_cases hk2:kd=2
    ·subst hk2
     cases hfo:findO ss z (strOfNums x) with
     | none =>
      rw[hfo,a2h] at HFk
      have HZ:Hid (lookV ss (bys s)=(0,4)):=ι (by rw[HV.out,HL.out,HD.out,HNo.out _ _ rfl hfo])
      clear hfo HK HNo HSo
      go_wp2_with (first|(go_at_call 73;refine HIk.out.mono ?_;rintro e w2 ⟨rfl,hb⟩;have B2:=ι (a0a HB.out hb);have hcc:=HC.out _ hb;clear hb)|(go_at_call 130;refine(HFk.out _ (a0a B1.out B2.out)).mono ?_;rintro e w3 ⟨rfl,hb⟩;have B3:=ι (a0a B2.out hb);clear hb))
      go_ret2
      exact⟨by rw[HZ.out];rfl,a0a B1.out B3.out⟩
     | some k =>
      rw[hfo,a2i] at HFk
      have HZ:Hid (lookG ss 0 ns=lookG ss (entAt ss (k:Int)).target (ns.drop (i+1))):=ι (by rw[HL.out,HD.out,HSo.out _ _ k rfl hfo])
      have hk24:=b0b hfo
      have HEk:=ι (HE.out k hk24)
      obtain⟨_,_,t0,t1⟩:=HG.out (k:Int)
      have hf3:=fieldE3 (entAt ss (k:Int))
      generalize (entAt ss (k:Int)).target=tg at HZ t0 t1 hf3
      generalize aggE (entAt ss (k:Int))=xv at HEk hf3
      clear hfo HK HNo HSo
      go_wp2_with (first|(go_at_call 73;refine HIk.out.mono ?_;rintro e w2 ⟨rfl,hb⟩;have B2:=ι (a0a HB.out hb);have hcc:=HC.out _ hb;clear hb)|(go_at_call 130;refine(HFk.out _ (a0a B1.out B2.out)).mono ?_;rintro e w3 ⟨rfl,hb⟩;have B3:=ι (a0a B2.out hb);clear hb)|(go_at_call 72;refine(HEk.out _ (a0a B1.out B3.out)).mono ?_;rintro e w4 ⟨rfl,hb⟩;have B4:=ι (a0a B3.out hb);clear hb))
      go_roundw
      case rel=>exact⟨i+1,tg,by omega,by go_num,rfl,t0,t1,HZ,B4⟩
      case measure=>simp[intOf];omega
    ·have HZ:Hid (lookV ss (bys s)=(0,6)):=ι (by rw[HV.out,HL.out,HD.out,HK.out _ _ hk2])
     have hkb:(kd != 2)=true:=by simpa using hk2
     clear HK HNo HSo hk2
     go_wp2_with (go_at_call 73;refine HIk.out.mono ?_;rintro e w2 ⟨rfl,hb⟩;have B2:=ι (a0a HB.out hb);clear hb)
     go_ret2
     exact⟨by rw[HZ.out];rfl,a0a B1.out B2.out⟩
   ·have hge:(m:Int)≤i:=by omega
    have HZ:Hid (lookV ss (bys s)=(z,0)):=ι (by
     rw[HV.out,HL.out,List.drop_of_length_le (by have:=HM.out;omega)];rfl)
    go_wp2_with fail
    go_ret2
    exact⟨by rw[HZ.out];rfl,a0a B1.out HB.out⟩
end lk
namespace al
set_option maxRecDepth 100000
open Go.ChangeShapes Go.WideShapes Go.ChangeAt Go.RowKit
open rows
open sec
open ly
open lk
def frI(ss:List (List Int)):Option Nat:=upto (fun n => !takenB ss (n:Int)) 16
def frE(ss:List (List Int)):Option Nat:=upto (fun k => !(entAt ss (k:Int)).used) 24
theorem a7m{ss:List (List Int)}(hs:Secs ss)(i:Int):InoFine (inoAt ss i):=by
 have f0:InoFine ino0:=⟨Int.le_refl _,by decide,Int.le_refl _,by decide,fun z hz=>by simp[ino0] at hz;omega⟩
 unfold inoAt
 split
 ·rw[inoOfV]
  split
  ·rename_i _ h
   rw[inoOfB,Bool.and_eq_true] at h
   exact a5c (a2v (a1n hs _)) h.1
  ·exact f0
 ·exact f0
def setAll(l:List Bool)(bs:List Int):List Bool:=bs.foldl (fun l b=>l.set b.toNat true) l
theorem a6o(bs:List Int):∀(l:List Bool),(setAll l bs).length=l.length:=by
 induction bs with
 | nil=>intro l;rfl
 | cons b r ih=>intro l;rw[setAll,List.foldl_cons];exact(ih _).trans (by simp)
theorem b0x{l:List Bool}{bs:List Int}{i:Nat}(h:i<bs.length):setAll l (bs.take (i+1))=(setAll l (bs.take i)).set (bs.getD i 0).toNat true:=by
 rw[List.take_succ_eq_append_getElem h,setAll,List.foldl_append]
 simp[setAll,List.getD,h]
theorem b7t(bs:List Int)(hb:∀z∈bs,0≤z):∀(l:List Bool) (b:Nat),b<l.length→(setAll l bs).getD b false=(l.getD b false || bs.contains (b:Int)):=by
 induction bs with
 | nil=>intro l b _;simp[setAll]
 | cons x r ih =>
  intro l b hl
  rw[setAll,List.foldl_cons,← setAll,ih (fun z hz=>hb z (List.mem_cons_of_mem _ hz)) _ b (by simpa using hl)]
  have hx:=hb x (List.mem_cons_self ..)
  by_cases e:x=(b:Int)
  ·subst e
   simp[List.getD,hl]
  ·have e2:x.toNat≠b:=by omega
   have e3:((b:Int) == x)=false:=beq_eq_false_iff_ne.2 (fun h=>e h.symm)
   rw[List.contains_cons,e3,Bool.false_or]
   simp[List.getD,List.getElem?_set,e2]
def liveB(ss:List (List Int))(n:Nat):Bool:=decide ((inoAt ss (n:Int)).kind=1) && takenB ss (n:Int)
def marks0:List Bool:=List.replicate 25 false
def markU(ss:List (List Int)):Nat→List Bool
 | 0=>marks0
 | n+1=>if liveB ss n then setAll (markU ss n) (inoAt ss (n:Int)).b else markU ss n
theorem a4z(ss:List (List Int)):∀n,(markU ss n).length=25
 | 0=>by simp[markU,marks0]
 | n+1=>by
  rw[markU]
  split
  ·rw[a6o,a4z ss n]
  ·exact a4z ss n
def marksOf(ss:List (List Int)):List Bool:=(markU ss 16).set 0 true
theorem b0f(ss:List (List Int)):(marksOf ss).length=25:=by rw[marksOf,List.length_set,a4z]
def hasU(ss:List (List Int))(b:Nat)(n:Nat):Bool:=(List.range n).any fun i=>liveB ss i && (inoAt ss (i:Int)).b.contains (b:Int)
theorem b5n(ss:List (List Int))(b n:Nat):hasU ss b (n+1)=(hasU ss b n || (liveB ss n && (inoAt ss (n:Int)).b.contains (b:Int))):=by
 rw[hasU,List.range_succ,List.any_append];simp[hasU]
theorem b3p{ss:List (List Int)}(hs:Secs ss)(b:Nat)(hb:b<25):∀n,(markU ss n).getD b false=hasU ss b n
 | 0=>by rw[markU,marks0,List.getD,List.getElem?_replicate,if_pos hb];rfl
 | n+1=>by
  rw[markU,b5n]
  cases hl:liveB ss n with
  | false=>rw[if_neg (by decide),Bool.false_and,Bool.or_false,b3p hs b hb n]
  | true=>rw[if_pos rfl,b7t _ (fun z hz=>((a7m hs _).b z hz).1) _ b (by rw[a4z];exact hb),Bool.true_and,b3p hs b hb n]
def usedB(ss:List (List Int))(b:Nat):Bool:=b == 0 || hasU ss b 16
theorem c2d{ss:List (List Int)}(hs:Secs ss)(b:Nat)(hb:b<25):(marksOf ss).getD b false=usedB ss b:=by
 rw[marksOf,usedB]
 by_cases h0:b=0
 ·subst h0
  rw[List.getD,List.getElem?_set,a4z];rfl
 ·have e:(b == 0)=false:=beq_eq_false_iff_ne.2 h0
  rw[e,Bool.false_or,List.getD,List.getElem?_set_ne (by omega),← List.getD]
  exact b3p hs b hb 16
def frU(ss:List (List Int)):Nat→List Nat
 | 0=>[]
 | b+1=>if usedB ss b then frU ss b else frU ss b++[b]
def frB(ss:List (List Int)):List Nat:=frU ss 25
theorem b8k(ss:List (List Int)):∀(k b:Nat),b∈frU ss k↔b<k∧usedB ss b=false
 | 0,b=>by simp[frU]
 | k+1,b=>by
  rw[frU]
  cases hu:usedB ss k with
  | true =>
   rw[if_pos rfl,b8k ss k b]
   constructor
   ·rintro⟨h1,h2⟩;exact⟨by omega,h2⟩
   ·rintro⟨h1,h2⟩
    refine⟨?_,h2⟩
    by_cases e:b=k
    ·subst e;rw[hu] at h2;cases h2
    ·omega
  | false =>
   rw[if_neg (by decide),List.mem_append,b8k ss k b,List.mem_singleton]
   constructor
   ·rintro(⟨h1,h2⟩|rfl)
    ·exact⟨by omega,h2⟩
    ·exact⟨by omega,hu⟩
   ·rintro⟨h1,h2⟩
    by_cases e:b=k
    ·exact Or.inr e
    ·exact Or.inl ⟨by omega,h2⟩
theorem b8l(ss:List (List Int)):∀k,(frU ss k).length≤k
 | 0=>Nat.le_refl _
 | k+1=>by
  have:=b8l ss k
  rw[frU]
  split
  ·omega
  ·simp;omega
theorem used0(ss:List (List Int)):usedB ss 0=true:=rfl
theorem c6n(ss:List (List Int))(k:Nat):∀m,frU ss k <+: frU ss (k+m)
 | 0=>List.prefix_refl _
 | m+1=>by
  have h:=c6n ss k m
  rw[← Nat.add_assoc,frU]
  split
  ·exact h
  ·exact h.trans (List.prefix_append _ _)
def cntBU(ss:List (List Int))(k:Nat):Nat:=cntU (fun i=>usedB ss (i+1)) k
def cntB(ss:List (List Int)):Nat:=cntBU ss 24
theorem c8p(ss:List (List Int)):∀k,(frU ss (k+1)).length+cntBU ss k=k
 | 0=>by rw[frU,if_pos (used0 ss)];rfl
 | k+1=>by
  have:=c8p ss k
  rw[frU,cntBU,cntU]
  unfold cntBU at this
  cases hu:usedB ss (k+1) with
  | true=>rw[if_pos rfl,if_pos rfl];omega
  | false=>rw[if_neg (by decide),if_neg (by decide),List.length_append];simp;omega
theorem frB_len(ss:List (List Int)):(frB ss).length=24-cntB ss∧cntB ss≤24:=by
 have h:(frU ss 25).length+cntBU ss 24=24:=c8p ss 24
 have h2:=b8x (fun i=>usedB ss (i+1)) 24
 unfold frB cntB
 unfold cntBU at *
 omega
end al
namespace al
set_option maxRecDepth 100000
open Go.ChangeShapes Go.WideShapes Go.ChangeAt Go.RowKit
open rows
open sec
open dsk (a0g a0c a0d)
open ly
open lk
def boolsV(l:List Bool):List Value:=l.map .bool
abbrev aggM(l:List Bool):Value := .agg (boolsV l).toArray
theorem c3n(l:List Bool):(boolsV l).length=l.length:=by simp[boolsV]
theorem a6j(l:List Bool):∀u∈boolsV l,u.oneCell'=true:=by
 intro u hu
 obtain⟨b,_,rfl⟩:=List.mem_map.1 hu
 rfl
theorem c6x:(Tryz.prog.info? 193).map (·.size)=some 25:=by kernel_rfl
def AtM(w:World)(g:Nat)(l:List Bool):Prop:=w.heap[g]? = some (.cells (boolsV l).toArray 193 (0,0))
theorem AtM.later{w w':World}{g:Nat}{l:List Bool}(h:AtM w g l)(k:Below w.heap.size w w'):AtM w' g l:=(k.block g (Array.getElem?_eq_some_iff.1 h).1).trans h
theorem AtM.lt{w:World}{g:Nat}{l:List Bool}(h:AtM w g l):g<w.heap.size:=(Array.getElem?_eq_some_iff.1 h).1
theorem atM_new(w:World)(l:List Bool):AtM (w.alloc (.cells (boolsV l).toArray 193)) w.heap.size l:=heap_alloc_new _ _
theorem lit_m:(#[.bool false,.bool false,.bool false,.bool false,.bool false,.bool false,.bool false,.bool false,.bool false,.bool false,.bool false,.bool false,.bool false,.bool false,.bool false,.bool false,.bool false,.bool false,.bool false,.bool false,.bool false,.bool false,.bool false,.bool false,.bool false]:Array Value)=(boolsV marks0).toArray:=by kernel_rfl
theorem b9g(w:World):AtM (w.alloc (.cells #[.bool false,.bool false,.bool false,.bool false,.bool false,.bool false,.bool false,.bool false,.bool false,.bool false,.bool false,.bool false,.bool false,.bool false,.bool false,.bool false,.bool false,.bool false,.bool false,.bool false,.bool false,.bool false,.bool false,.bool false,.bool false] 193)) w.heap.size marks0:=by
 rw[lit_m]
 exact atM_new w marks0
theorem AtM.cell{w:World}{g:Nat}{l:List Bool}(h:AtM w g l){k:Nat}(hk:k<l.length):w.cell? ⟨g,k,none⟩=some (.bool (l.getD k false)) :=
 a0c h k _ (by simp[boolsV,List.getD,hk])
theorem AtM.frozen{w:World}{g:Nat}{l:List Bool}(h:AtM w g l)(k:Nat):w.frozen? ⟨g,k,none⟩=false:=a0d h k
theorem AtM.set{w:World}{g:Nat}{l:List Bool}(h:AtM w g l)(k:Nat)(b:Bool):AtM (w.setCell ⟨g,k,none⟩ (.bool b)) g (l.set k b):=by
 unfold AtM
 rw[a0g h]
 congr 2
 simp[boolsV,List.map_set]
theorem load_m{ops:Array Oper}{rest:List Oper}{o:Oper}{a:Act}{w:World}{Q:Exit→Act→World→Prop}(hgd:o.guard=none)(x:Operand)(ho:o.op = .load 193 x)
  (g:Nat) (hx:a.eval x = .pointer (some ⟨g,0,none⟩)) (l:List Bool) (hs:l.length=25) (hg:AtM w g l)
  (h:wpList Tryz.prog ops Q rest (a.put o.dst (aggM l)) w):wpList Tryz.prog ops Q (o::rest) a w :=
 wpList_load_row hgd 193 x ho g hx 193 _ _ _ hg Tryz.underlying193 rfl (by rw[c6x];simp[boolsV,hs]) h
theorem c7e{ops:Array Oper}{rest:List Oper}{o:Oper}{a:Act}{w:World}{Q:Exit→Act→World→Prop}(hgd:o.guard=none)(x y:Operand)(ho:o.op = .store 193 x y)(hd:o.dst=none)
  (g:Nat) (s old:List Bool) (hx:a.eval x = .pointer (some ⟨g,0,none⟩)) (hy:a.eval y=aggM s) (hs:s.length=25) (hold:old.length=25) (hg:AtM w g old)
  (h:∀w',AtM w' g s→Below g w w'→wpList Tryz.prog ops Q rest a w'):wpList Tryz.prog ops Q (o::rest) a w:=by
 have hl:(boolsV s).toArray.size=25:=by simp[boolsV,hs]
 refine wpList_store_row hgd 193 x y ho g (boolsV s).toArray hx hy 193 _ hg (by rw[c6x,hl]) (by simp[boolsV,hs,hold]) (by simp only[List.all_toArray];exact List.all_eq_true.2 (a6j s)) ?_
 rw[hd]
 exact h _ (setRow_heap w g _ _ _ _ hg) ((Below.refl g w).trans ⟨rfl,rfl,rfl,by simp[World.setRow],fun k hk=>setRow_other w g k _ (by omega)⟩)
theorem ret_m{fn:Func}{p:Tmp}{R:Ending→World→Prop}{a:Act}{w:World}(h:fn.results = #[.cell p 193])(g:Nat)(s:List Bool)(hp:a.tmps.getD p undef = .pointer (some ⟨g,0,none⟩))(hs:s.length=25)(hg:AtM w g s)
  (hd:a.defers=[]) (hR:R (.returned (aggM s)) w):bodyPost Tryz.prog fn R .ret a w :=
 bodyPost_ret (results_cell_row h a.tmps w g _ _ _ _ hp hg Tryz.underlying193 rfl (by rw[c6x];simp[boolsV,hs])) hd hR
end al
namespace al
set_option maxRecDepth 100000
open Go.ChangeShapes Go.WideShapes Go.ChangeAt Go.RowKit
open rows
open sec
open ly
open lk
set_option maxHeartbeats 1600000 in
theorem c9h(p:Option Addr)(n c:Nat)(ss:List (List Int))(w:World)(h:Rd w 32 (.slice p n c) n (cellsOf ss))(hs:Secs ss)(hn:n≤100000) :
  Calls Tryz.prog 63 #[.slice p n c] w (Rt w (optV (frI ss))):=by
 have HE:=ι fun(k:Nat) (hk:k≤16) w' (hb:Below w.heap.size w w')=>b3m p n c ss w' (h.later hb) hs hn (k:Int) (WalkArith.wf_i64 (by omega))
 clear h hs
 go_enter Tryz.func63,Tryz.ntmps63
 go_wp2_with fail
 go_loopw [4] (fun kv wr=>∃k:Nat,k≤16∧kv = .int .i64 (k:Int)∧Hid (upto (fun n => !takenB ss (n:Int)) k=none)∧Hid (Below w.heap.size w wr)) (fun kv _=>16-(intOf kv).toNat)
 case atStart=>exact⟨0,by omega,rfl,ι rfl,ι (Below.refl _ _)⟩
 case round =>
  obtain⟨k,hk,rfl,HN,HB⟩:=hrel
  by_cases hlt:k<16
  ·have hlti:(k:Int)<16:=by omega
   have HEk:=ι (HE.out k (by omega) wr HB.out)
   have HM:=ι fun hf=>b0j (p:=fun n => !takenB ss (n:Int)) HN.out hf
   have HH:=ι fun ht=>a6u (p:=fun n => !takenB ss (n:Int)) HN.out ht 16 (by omega)
   cases ht:takenB ss (k:Int) with
   | true =>
    rw[ht] at HEk
    have HN1:=ι (HM.out (by simp[ht]))
    clear HM HH ht
    go_wp2_with (go_at_call 131;refine HEk.out.mono ?_;rintro e w1 ⟨rfl,hb⟩;have B1:=ι (a0a HB.out hb);clear hb)
    go_roundw
    case rel=>exact⟨k+1,by omega,by go_num,HN1,B1⟩
    case measure=>simp[intOf];omega
   | false =>
    rw[ht] at HEk
    have HZ:Hid (frI ss=some k):=HH.out (by simp[ht])
    clear HM HH ht
    go_wp2_with (go_at_call 131;refine HEk.out.mono ?_;rintro e w1 ⟨rfl,hb⟩;have B1:=ι (a0a HB.out hb);clear hb)
    go_ret2
    exact⟨by rw[HZ.out];rfl,B1.out⟩
  ·obtain rfl:k=16:=by omega
   have HZ:Hid (frI ss=none):=HN
   go_wp2_with fail
   go_ret2
   exact⟨by rw[HZ.out];rfl,HB.out⟩
set_option maxHeartbeats 1600000 in
theorem c0v(p:Option Addr)(n c:Nat)(ss:List (List Int))(w:World)(h:Rd w 32 (.slice p n c) n (cellsOf ss))(hs:Secs ss)(hn:n≤100000) :
  Calls Tryz.prog 64 #[.slice p n c] w (Rt w (optV (frE ss))):=by
 have HE:=ι fun(k:Nat) (hk:k≤24) w' (hb:Below w.heap.size w w')=>a4q p n c ss w' (h.later hb) hs hn (k:Int) (WalkArith.wf_i64 (by omega))
 clear h hs
 go_enter Tryz.func64,Tryz.ntmps64
 go_wp2_with fail
 go_loopw [4,5] (fun kv _ wr=>∃k:Nat,k≤24∧kv = .int .i64 (k:Int)∧Hid (upto (fun k => !(entAt ss (k:Int)).used) k=none)∧Hid (Below w.heap.size w wr)) (fun kv _ _=>24-(intOf kv).toNat)
 case atStart=>exact⟨0,by omega,rfl,ι rfl,ι (Below.refl _ _)⟩
 case round =>
  obtain⟨k,hk,rfl,HN,HB⟩:=hrel
  by_cases hlt:k<24
  ·have hlti:(k:Int)<24:=by omega
   have HEk:=ι (HE.out k (by omega) wr HB.out)
   have HM:=ι fun hf=>b0j (p:=fun k => !(entAt ss (k:Int)).used) HN.out hf
   have HH:=ι fun ht=>a6u (p:=fun k => !(entAt ss (k:Int)).used) HN.out ht 24 (by omega)
   generalize entAt ss (k:Int)=x at HEk HM HH
   obtain⟨u,pa,nm,tg⟩:=x
   cases u with
   | true =>
    have HN1:=ι (HM.out rfl)
    clear HM HH
    go_wp2_with (go_at_call 72;refine HEk.out.mono ?_;rintro e w1 ⟨rfl,hb⟩;have B1:=ι (a0a HB.out hb);clear hb)
    go_roundw
    case rel=>exact⟨k+1,by omega,by go_num,HN1,ι (a0b B1.out _)⟩
    case measure=>simp[intOf];omega
   | false =>
    have HZ:Hid (frE ss=some k):=HH.out rfl
    clear HM HH
    go_wp2_with (go_at_call 72;refine HEk.out.mono ?_;rintro e w1 ⟨rfl,hb⟩;have B1:=ι (a0a HB.out hb);clear hb)
    go_ret2
    exact⟨by rw[HZ.out];rfl,a0b B1.out _⟩
  ·obtain rfl:k=24:=by omega
   have HZ:Hid (frE ss=none):=HN
   go_wp2_with fail
   go_ret2
   exact⟨by rw[HZ.out];rfl,HB.out⟩
end al
namespace al
set_option maxRecDepth 100000
open Go.ChangeShapes Go.WideShapes Go.ChangeAt Go.RowKit
open rows
open sec
open ly
open lk
theorem AtM.other{w:World}{g k j:Nat}{l:List Bool}(h:AtM w k l)(hk:k≠g)(v:Value):AtM (w.setCell ⟨g,j,none⟩ v) k l:=(Below.heap_setCell _ _ _ _ hk).trans h
structure MarkAt (w:World) (ss:List (List Int)) (l:List Bool) (wr:World):Prop where
 res:AtM wr w.heap.size marks0
 row:AtM wr (w.heap.size+1) l
 below:Below w.heap.size w wr
theorem MarkAt.later{w:World}{ss:List (List Int)}{l:List Bool}{a b:World}(h:MarkAt w ss l a)(k:Below a.heap.size a b):MarkAt w ss l b:=⟨h.res.later k,h.row.later k,a0a h.below k⟩
theorem MarkAt.set{w:World}{ss:List (List Int)}{l:List Bool}{a:World}(h:MarkAt w ss l a)(k:Nat):MarkAt w ss (l.set k true) (a.setCell ⟨w.heap.size+1,k,none⟩ (.bool true)) :=
 ⟨h.res.other (by omega) _,h.row.set k true,h.below.setCell (p:=⟨w.heap.size+1,k,none⟩) (Nat.le_succ _) _⟩
set_option maxRecDepth 100000 in
set_option maxHeartbeats 3200000 in
theorem c5l(p:Option Addr)(n c:Nat)(ss:List (List Int))(w:World)(h:Rd w 32 (.slice p n c) n (cellsOf ss))(hs:Secs ss)(hn:n≤100000) :
  Calls Tryz.prog 135 #[.slice p n c] w (Rt w (aggM (marksOf ss))):=by
 have HI:=ι fun(k:Nat) (hk:k≤16) w' (hb:Below w.heap.size w w')=>a5o p n c ss w' (h.later hb) hs hn (k:Int) (WalkArith.wf_i64 (by omega))
 have HT:=ι fun(k:Nat) (hk:k≤16) w' (hb:Below w.heap.size w w')=>b3m p n c ss w' (h.later hb) hs hn (k:Int) (WalkArith.wf_i64 (by omega))
 have HF:=ι fun k=>(a7m hs k).b
 have HF4:=ι fun k=>a1m hs k
 have HML:=ι (a4z ss)
 have HMO:=ι (b0f ss)
 have A0:=b9g w
 obtain⟨W1,hW1⟩:∃W1,w.alloc (.cells #[.bool false,.bool false,.bool false,.bool false,.bool false,.bool false,.bool false,.bool false,.bool false,.bool false,.bool false,.bool false,.bool false,.bool false,.bool false,.bool false,.bool false,.bool false,.bool false,.bool false,.bool false,.bool false,.bool false,.bool false,.bool false] 193)=W1:=⟨_,rfl⟩
 have hz1:W1.heap.size=w.heap.size+1:=by rw[← hW1];simp
 have A1:=b9g W1
 obtain⟨W2,hW2⟩:∃W2,W1.alloc (.cells #[.bool false,.bool false,.bool false,.bool false,.bool false,.bool false,.bool false,.bool false,.bool false,.bool false,.bool false,.bool false,.bool false,.bool false,.bool false,.bool false,.bool false,.bool false,.bool false,.bool false,.bool false,.bool false,.bool false,.bool false,.bool false] 193)=W2:=⟨_,rfl⟩
 have M0:Hid (MarkAt w ss marks0 W2):=ι (by
  have hb1:Below w.heap.size w W1:=by rw[← hW1];exact a0b (Below.refl _ _) _
  have hb2:Below W1.heap.size W1 W2:=by rw[← hW2];exact a0b (Below.refl _ _) _
  rw[hW1] at A0
  rw[hW2,hz1] at A1
  exact⟨A0.later hb2,A1,a0a hb1 hb2⟩)
 clear h hs A0 A1
 go_enter Tryz.func135,Tryz.ntmps135
 go_upto_region 2 with fail
 clear hW1 hW2
 go_wp2_with fail
 go_loopw [4,5,6] (fun kv _ _ wr=>∃k:Nat,k≤16∧kv = .int .i64 (k:Int)∧Hid (MarkAt w ss (markU ss k) wr)) (fun kv _ _ _=>16-(intOf kv).toNat)
 case atStart=>exact⟨0,by omega,rfl,M0⟩
 case round =>
  obtain⟨k,hk,rfl,HM⟩:=hrel
  clear M0
  by_cases hlt:k<16
  ·have hlti:(k:Int)<16:=by omega
   have HIk:=ι (HI.out k (by omega) wr HM.out.below)
   have HTk:=ι fun w' hb=>HT.out k (by omega) w' hb
   have HFk:=ι (HF.out (k:Int))
   have H4k:=ι (HF4.out (k:Int))
   have HL0:=ι (HML.out k)
   have HNX:Hid (markU ss (k+1)=if liveB ss k then setAll (markU ss k) (inoAt ss (k:Int)).b else markU ss k):=ι rfl
   have HLV:Hid (liveB ss k=(decide ((inoAt ss (k:Int)).kind=1) && takenB ss (k:Int))):=ι rfl
   generalize inoAt ss (k:Int)=x at HIk HFk H4k HNX HLV
   generalize takenB ss (k:Int)=tk at HTk HLV
   generalize liveB ss k=lv at HNX HLV
   obtain⟨kd,sz,bl⟩:=x
   simp only at HFk H4k HNX HLV
   have HL4:Hid (bl.length=4):=H4k
   by_cases hkd:kd=1
   ·subst hkd
    cases tk with
    | false =>
     have HS:Hid (markU ss (k+1)=markU ss k):=ι (by rw[HNX.out,HLV.out];rfl)
     clear HNX HLV
     go_upto_region 6 with(first|(go_at_call 73;refine HIk.out.mono ?_;rintro e w1 ⟨rfl,hb⟩;have M1:=ι (HM.out.later hb);clear hb)|(refine a0f rfl (.tmp 5) (.tmp 13) rfl rfl w1.heap.size ⟨1,sz,bl⟩ ino0 rfl rfl H4k.out rfl (a0r w1) ?_;intro w2 hA hB _;have hb:=(a0b (Below.refl _ w1) _).trans hB;have M2:=ι (M1.out.later hb);have A2:=ι hA;clear hA hB hb))
     have hc0:=A2.out.cell0
     go_wp2_with (go_at_call 131;refine(HTk.out _ M2.out.below).mono ?_;rintro e w3 ⟨rfl,hb⟩;have M3:=ι (M2.out.later hb);clear hb)
     go_roundw
     case rel=>exact⟨k+1,by omega,by go_num,by rw[HS.out];exact M3⟩
     case measure=>simp[intOf];omega
    | true =>
     have HS:Hid (markU ss (k+1)=setAll (markU ss k) bl):=ι (by rw[HNX.out,HLV.out];rfl)
     clear HNX HLV
     go_upto_region 6 with(first|(go_at_call 73;refine HIk.out.mono ?_;rintro e w1 ⟨rfl,hb⟩;have M1:=ι (HM.out.later hb);clear hb)|(refine a0f rfl (.tmp 5) (.tmp 13) rfl rfl w1.heap.size ⟨1,sz,bl⟩ ino0 rfl rfl H4k.out rfl (a0r w1) ?_;intro w2 hA hB _;have hb:=(a0b (Below.refl _ w1) _).trans hB;have M2:=ι (M1.out.later hb);have A2:=ι hA;have HG:Hid (w.heap.size+1<w1.heap.size):=ι M1.out.row.lt;clear hA hB hb))
     have hc0:=A2.out.cell0
     go_wp2_with (go_at_call 131;refine(HTk.out _ M2.out.below).mono ?_;rintro e w3 ⟨rfl,hb⟩;have M3:=ι (M2.out.later hb);have A3:=ι (A2.out.later hb);clear hb)
     clear hc0
     obtain⟨g,hg⟩:∃g,w1.heap.size=g:=⟨_,rfl⟩
     rw[hg] at HG A3
     go_loopw [6] (fun jv wr=>∃j:Nat,j≤4∧jv = .int .i64 (j:Int)∧Hid (MarkAt w ss (setAll (markU ss k) (bl.take j)) wr)∧Hid (AtI wr g ⟨1,sz,bl⟩)) (fun jv _=>4-(intOf jv).toNat)
     case atStart=>exact⟨0,by omega,rfl,M3,A3⟩
     case round =>
      obtain⟨j,hj,rfl,HMj,HAj⟩:=hrel
      by_cases hltj:j<4
      ·have hltji:(j:Int)<4:=by omega
       have hjl:j<bl.length:=by rw[HL4.out];exact hltj
       have hcb:=HAj.out.cellb hjl
       have HZ:=ι (b0x (l:=markU ss k) hjl)
       have hz:=HFk.out (bl.getD j 0) (by rw[show bl.getD j 0=bl[j] by simp[List.getD,hjl]];exact List.getElem_mem hjl)
       simp only at hcb
       obtain⟨m,hm⟩:=Int.eq_ofNat_of_zero_le hz.1
       rw[hm] at hcb hz HZ
       have hm24:m<25:=by omega
       have hmi:(m:Int)<25:=by omega
       have hcm:=HMj.out.row.cell (k:=m) (by rw[a6o,HL0.out];exact hm24)
       have hfm:=HMj.out.row.frozen m
       rw[hg]
       clear hz hm
       go_wp2_with fail
       go_roundw
       case rel=>exact⟨j+1,by omega,by go_num,ι (by rw[HZ.out];exact HMj.out.set m),ι (HAj.out.setOther (by have:=HG.out;omega) _)⟩
       case measure=>simp[intOf];omega
      ·obtain rfl:j=4:=by omega
       go_wp2_with fail
       go_roundw
       case rel=>exact⟨k+1,by omega,by go_num,ι (by rw[HS.out];have:=HMj.out;rw[List.take_of_length_le (by rw[HL4.out];exact Nat.le_refl _)] at this;exact this)⟩
       case measure=>simp[intOf];omega
   ·have hkb:(kd == 1)=false:=beq_eq_false_iff_ne.2 hkd
    have HS:Hid (markU ss (k+1)=markU ss k):=ι (by rw[HNX.out,HLV.out,decide_eq_false hkd];rfl)
    clear HNX HLV hkd
    go_upto_region 6 with(first|(go_at_call 73;refine HIk.out.mono ?_;rintro e w1 ⟨rfl,hb⟩;have M1:=ι (HM.out.later hb);clear hb)|(refine a0f rfl (.tmp 5) (.tmp 13) rfl rfl w1.heap.size ⟨kd,sz,bl⟩ ino0 rfl rfl H4k.out rfl (a0r w1) ?_;intro w2 hA hB _;have hb:=(a0b (Below.refl _ w1) _).trans hB;have M2:=ι (M1.out.later hb);have A2:=ι hA;clear hA hB hb))
    have hc0:=A2.out.cell0
    go_wp2_with fail
    go_roundw
    case rel=>exact⟨k+1,by omega,by go_num,by rw[HS.out];exact M2⟩
    case measure=>simp[intOf];omega
  ·obtain rfl:k=16:=by omega
   have hc:=HM.out.row.cell (k:=0) (by rw[HML.out];omega)
   have hf:=HM.out.row.frozen 0
   go_wp2_with (first|(refine load_m rfl (.tmp 3) rfl (w.heap.size+1) rfl (marksOf ss) HMO.out (HM.out.set 0).row ?_)|(refine c7e rfl (.tmp 2) (.tmp 32) rfl rfl w.heap.size (marksOf ss) marks0 rfl rfl HMO.out (by decide) (HM.out.set 0).res ?_;intro w4 hA hB;have A4:=ι hA;have B4:=ι ((HM.out.set 0).below.trans hB);clear hA hB))
   exact ret_m rfl w.heap.size (marksOf ss) rfl HMO.out A4.out rfl ⟨rfl,B4.out⟩
end al
namespace al
set_option maxRecDepth 100000
open Go.ChangeShapes Go.WideShapes Go.ChangeAt Go.RowKit
open rows
open sec
open ly
open lk
theorem c5s:Elem 39 3 1 8 (.int .i64 0):=⟨Tryz.underlying39,by kernel_rfl,by decide,by decide,by decide⟩
def blkB(ss:List (List Int))(z:Int):Bool:=decide (0≤z∧z≤((frB ss).length:Int))
def ofNats(l:List Nat):List Int:=l.map fun b:Nat=>(b:Int)
def blkL(ss:List (List Int))(z:Int):List Int:=if blkB ss z then ofNats ((frB ss).take z.toNat) else []
theorem a3a(l:List Nat):(ofNats l).length=l.length:=by simp[ofNats]
theorem b0v(l:List Nat)(b:Nat):ofNats (l++[b])=ofNats l++[(b:Int)]:=by simp[ofNats]
theorem d0r{ss:List (List Int)}(b:Nat)(u:Bool)(h:usedB ss b=u):frU ss (b+1)=if u then frU ss b else frU ss b++[b]:=by rw[frU,h]
theorem c1n{ss:List (List Int)}{z:Int}{b:Nat}(hb:b≤25)(h:((frU ss b).length:Int)=z):blkB ss z=true∧blkL ss z=ofNats (frU ss b):=by
 have hp:=c6n ss b (25-b)
 rw[show b+(25-b)=25 by omega] at hp
 have hl:=hp.length_le
 have h1:blkB ss z=true:=by
  rw[blkB,decide_eq_true_eq]
  refine⟨by omega,?_⟩
  unfold frB
  omega
 refine⟨h1,?_⟩
 rw[blkL,if_pos h1,show z.toNat=(frU ss b).length by omega]
 unfold frB
 rw[← List.prefix_iff_eq_take.1 hp]
theorem c6b{ss:List (List Int)}{z:Int}(h:z<0∨((frU ss 25).length:Int)<z):blkB ss z=false∧blkL ss z=[]:=by
 have h1:blkB ss z=false:=by
  rw[blkB,decide_eq_false_iff_not]
  unfold frB
  omega
 exact⟨h1,by rw[blkL,h1];rfl⟩
theorem b6y(l:List Int)(z:Int):i64s l++[.int .i64 z]=i64s (l++[z]):=by simp[i64s]
end al
namespace lk
set_option maxRecDepth 100000
open Go.ChangeShapes Go.WideShapes Go.ChangeAt Go.RowKit
open rows
open sec
open dsk (wf64)
open ly
set_option maxRecDepth 100000 in
set_option maxHeartbeats 1600000 in
theorem b7a(w:World)(d:Value)(ss:List (List Int))(i:Int)(h:Dk w d ss)(hi:wf64 i):Calls Tryz.prog 188 #[d,.int .i64 i] w (Rt w (agg (secAt ss i))):=by
 have HT:=ι fun w' (hb:Below w.heap.size w w')=>dread w' d ss i (h.later hb) hi
 have hS:=a1n h.secs.1 i
 have A0:=ι (a1a w)
 have hb0:=a0b (Below.refl w.heap.size w) (.cells #[Value.int IntKind.u8 0,Value.int IntKind.u8 0,Value.int IntKind.u8 0,Value.int IntKind.u8 0,Value.int IntKind.u8 0,Value.int IntKind.u8 0,Value.int IntKind.u8 0,Value.int IntKind.u8 0,Value.int IntKind.u8 0,Value.int IntKind.u8 0,Value.int IntKind.u8 0,Value.int IntKind.u8 0,Value.int IntKind.u8 0,Value.int IntKind.u8 0,Value.int IntKind.u8 0,Value.int IntKind.u8 0,Value.int IntKind.u8 0,Value.int IntKind.u8 0,Value.int IntKind.u8 0,Value.int IntKind.u8 0,Value.int IntKind.u8 0,Value.int IntKind.u8 0,Value.int IntKind.u8 0,Value.int IntKind.u8 0,Value.int IntKind.u8 0,Value.int IntKind.u8 0,Value.int IntKind.u8 0,Value.int IntKind.u8 0,Value.int IntKind.u8 0,Value.int IntKind.u8 0,Value.int IntKind.u8 0,Value.int IntKind.u8 0] 95)
 obtain⟨W,hW⟩:∃W,w.alloc (.cells #[Value.int IntKind.u8 0,Value.int IntKind.u8 0,Value.int IntKind.u8 0,Value.int IntKind.u8 0,Value.int IntKind.u8 0,Value.int IntKind.u8 0,Value.int IntKind.u8 0,Value.int IntKind.u8 0,Value.int IntKind.u8 0,Value.int IntKind.u8 0,Value.int IntKind.u8 0,Value.int IntKind.u8 0,Value.int IntKind.u8 0,Value.int IntKind.u8 0,Value.int IntKind.u8 0,Value.int IntKind.u8 0,Value.int IntKind.u8 0,Value.int IntKind.u8 0,Value.int IntKind.u8 0,Value.int IntKind.u8 0,Value.int IntKind.u8 0,Value.int IntKind.u8 0,Value.int IntKind.u8 0,Value.int IntKind.u8 0,Value.int IntKind.u8 0,Value.int IntKind.u8 0,Value.int IntKind.u8 0,Value.int IntKind.u8 0,Value.int IntKind.u8 0,Value.int IntKind.u8 0,Value.int IntKind.u8 0,Value.int IntKind.u8 0] 95)=W:=⟨_,rfl⟩
 rw[hW] at hb0 A0
 have HB0:=ι hb0
 have HS:=ι hS
 generalize (if 0≤i∧i<(ss.length:Int) then (0:Int) else 1)=r at HT
 generalize secAt ss i=s at *
 clear h hS hb0 hi
 go_enter Tryz.func188,Tryz.ntmps188
 go_upto_region 1 with fail
 clear hW
 go_wp2_with (first|(go_at_call 59;refine(HT.out _ HB0.out).mono ?_;rintro e w1 ⟨rfl,hb⟩;have B1:=ι (a0a HB0.out hb);have A1:=ι (A0.out.later hb);clear hb)|(refine a0j rfl (.tmp 5) (.tmp 11) rfl rfl w1.heap.size s zero32 rfl rfl HS.out.1 (by decide) (a1a w1) ?_;intro w2 hA hB _;have hb:=(a0b (Below.refl _ w1) _).trans hB;have B2:=ι (a0a B1.out hb);have A2:=ι (A1.out.later hb);have S2:=ι hA;clear hA hB hb)|(refine a1t rfl (.tmp 5) rfl w1.heap.size rfl s HS.out.1 S2.out ?_)|(refine a0j rfl (.tmp 4) (.tmp 13) rfl rfl w.heap.size s zero32 rfl rfl HS.out.1 (by decide) A2.out ?_;intro w5 hA hB _;have A5:=ι hA;have B5:=ι (B2.out.trans hB);clear hA hB))
 exact a4j rfl w.heap.size s rfl HS.out.1 A5.out rfl ⟨rfl,B5.out⟩
set_option maxRecDepth 100000 in
set_option maxHeartbeats 1600000 in
theorem a7y(w:World)(d:Value)(ss:List (List Int))(i:Int)(h:Dk w d ss)(hi:wf64 i):Calls Tryz.prog 146 #[d,.int .i64 i] w (Rt w (aggI (inoAt ss i))):=by
 have A0:=ι (a0r w)
 have hb0:=a0b (Below.refl w.heap.size w) (.cells #[.int .i64 0,.int .i64 0,.int .i64 0,.int .i64 0,.int .i64 0,.int .i64 0] 119)
 obtain⟨i1,i2⟩:=rows.wf_i64 hi
 by_cases hin:0≤i∧i<16
 ·have e:inoAt ss i=inoOfV (secAt ss (1+i)):=by rw[inoAt,if_pos hin]
  rw[e]
  have HT:=ι fun w' (hb:Below w.heap.size w w')=>b7a w' d ss (1+i) (h.later hb) (WalkArith.wf_i64 (by omega))
  have hS:=a1n h.secs.1 (1+i)
  have HI:=ι fun w=>b8c (secAt ss (1+i)) hS w
  have H4:=ι (a5q hS)
  obtain⟨j1,j2⟩:=hin
  obtain⟨W,hW⟩:∃W,w.alloc (.cells #[.int .i64 0,.int .i64 0,.int .i64 0,.int .i64 0,.int .i64 0,.int .i64 0] 119)=W:=⟨_,rfl⟩
  rw[hW] at hb0 A0
  have HB0:=ι hb0
  generalize inoOfV (secAt ss (1+i))=x at *
  generalize inoOfB (secAt ss (1+i))=xb at *
  generalize secAt ss (1+i)=s at *
  clear h hS e hb0
  go_enter Tryz.func146,Tryz.ntmps146
  go_upto_region 1 with fail
  clear hW
  go_wp2_with (first|(go_at_call 188;refine(HT.out _ HB0.out).mono ?_;rintro e w1 ⟨rfl,hb⟩;have B1:=ι (a0a HB0.out hb);have A1:=ι (A0.out.later hb);clear hb)|(go_at_call 187;refine(HI.out _).mono ?_;rintro e w3 ⟨rfl,hb⟩;have B3:=ι (a0a B1.out hb);have A3:=ι (A1.out.later hb);clear hb)|(refine a0f rfl (.tmp 5) (.tmp 20) rfl rfl w3.heap.size x ino0 rfl rfl H4.out rfl (a0r w3) ?_;intro w4 hA hB _;have hb:=(a0b (Below.refl _ w3) _).trans hB;have B4:=ι (a0a B3.out hb);have A4:=ι (A3.out.later hb);have X4:=ι hA;clear hA hB hb)|(refine a0s rfl (.tmp 5) rfl w3.heap.size rfl x H4.out X4.out ?_)|(refine a0f rfl (.tmp 4) (.tmp 22) rfl rfl w.heap.size x ino0 rfl rfl H4.out rfl A4.out ?_;intro w5 hA hB _;have A5:=ι hA;have B5:=ι (B4.out.trans hB);clear hA hB))
  exact a6p rfl w.heap.size x rfl H4.out A5.out rfl ⟨rfl,B5.out⟩
 ·have e:inoAt ss i=ino0:=by rw[inoAt,if_neg hin]
  rw[e]
  clear h e
  obtain⟨W,hW⟩:∃W,w.alloc (.cells #[.int .i64 0,.int .i64 0,.int .i64 0,.int .i64 0,.int .i64 0,.int .i64 0] 119)=W:=⟨_,rfl⟩
  rw[hW] at hb0 A0
  have HB0:=ι hb0
  clear hb0
  by_cases hz:i<0
  ·go_enter Tryz.func146,Tryz.ntmps146
   go_upto_region 1 with fail
   clear hW
   go_wp2_with (refine a0f rfl (.tmp 4) (.tmp 13) rfl rfl w.heap.size ino0 ino0 rfl rfl rfl rfl A0.out ?_;intro w5 hA hB _;have A5:=ι hA;have B5:=ι (HB0.out.trans hB);clear hA hB)
   exact a6p rfl w.heap.size ino0 rfl rfl A5.out rfl ⟨rfl,B5.out⟩
  ·have hz2:16≤i:=by omega
   have hz0:0≤i:=by omega
   go_enter Tryz.func146,Tryz.ntmps146
   go_upto_region 1 with fail
   clear hW
   go_wp2_with (refine a0f rfl (.tmp 4) (.tmp 13) rfl rfl w.heap.size ino0 ino0 rfl rfl rfl rfl A0.out ?_;intro w5 hA hB _;have A5:=ι hA;have B5:=ι (HB0.out.trans hB);clear hA hB)
   exact a6p rfl w.heap.size ino0 rfl rfl A5.out rfl ⟨rfl,B5.out⟩
set_option maxRecDepth 100000 in
set_option maxHeartbeats 1600000 in
theorem a9q(w:World)(d:Value)(ss:List (List Int))(i:Int)(h:Dk w d ss)(hi:wf64 i):Calls Tryz.prog 149 #[d,.int .i64 i] w (Rt w (aggE (entAt ss i))):=by
 have A0:=ι (a4h w)
 have hb0:=a0b (Below.refl w.heap.size w) (.cells #[.bool false,.int .i64 0,.string { data := #[] },.int .i64 0] 123)
 obtain⟨i1,i2⟩:=rows.wf_i64 hi
 by_cases hin:0≤i∧i<24
 ·have e:entAt ss i=entOfV (secAt ss (17+i)):=by rw[entAt,if_pos hin]
  rw[e]
  have HT:=ι fun w' (hb:Below w.heap.size w w')=>b7a w' d ss (17+i) (h.later hb) (WalkArith.wf_i64 (by omega))
  have hS:=a1n h.secs.1 (17+i)
  have HI:=ι fun w=>b9k (secAt ss (17+i)) hS w
  have _h4:=True.intro
  obtain⟨j1,j2⟩:=hin
  obtain⟨W,hW⟩:∃W,w.alloc (.cells #[.bool false,.int .i64 0,.string { data := #[] },.int .i64 0] 123)=W:=⟨_,rfl⟩
  rw[hW] at hb0 A0
  have HB0:=ι hb0
  generalize entOfV (secAt ss (17+i))=x at *
  generalize entOfB (secAt ss (17+i))=xb at *
  generalize secAt ss (17+i)=s at *
  clear h hS e hb0
  go_enter Tryz.func149,Tryz.ntmps149
  go_upto_region 1 with fail
  clear hW
  go_wp2_with (first|(go_at_call 188;refine(HT.out _ HB0.out).mono ?_;rintro e w1 ⟨rfl,hb⟩;have B1:=ι (a0a HB0.out hb);have A1:=ι (A0.out.later hb);clear hb)|(go_at_call 189;refine(HI.out _).mono ?_;rintro e w3 ⟨rfl,hb⟩;have B3:=ι (a0a B1.out hb);have A3:=ι (A1.out.later hb);clear hb)|(refine a0v rfl (.tmp 5) (.tmp 20) rfl rfl w3.heap.size x ent0 rfl rfl (a4h w3) ?_;intro w4 hA hB _;have hb:=(a0b (Below.refl _ w3) _).trans hB;have B4:=ι (a0a B3.out hb);have A4:=ι (A3.out.later hb);have X4:=ι hA;clear hA hB hb)|(refine a0t rfl (.tmp 5) rfl w3.heap.size rfl x X4.out ?_)|(refine a0v rfl (.tmp 4) (.tmp 22) rfl rfl w.heap.size x ent0 rfl rfl A4.out ?_;intro w5 hA hB _;have A5:=ι hA;have B5:=ι (B4.out.trans hB);clear hA hB))
  exact a5t rfl w.heap.size x rfl A5.out rfl ⟨rfl,B5.out⟩
 ·have e:entAt ss i=ent0:=by rw[entAt,if_neg hin]
  rw[e]
  clear h e
  obtain⟨W,hW⟩:∃W,w.alloc (.cells #[.bool false,.int .i64 0,.string { data := #[] },.int .i64 0] 123)=W:=⟨_,rfl⟩
  rw[hW] at hb0 A0
  have HB0:=ι hb0
  clear hb0
  by_cases hz:i<0
  ·go_enter Tryz.func149,Tryz.ntmps149
   go_upto_region 1 with fail
   clear hW
   go_wp2_with (refine a0v rfl (.tmp 4) (.tmp 13) rfl rfl w.heap.size ent0 ent0 rfl rfl A0.out ?_;intro w5 hA hB _;have A5:=ι hA;have B5:=ι (HB0.out.trans hB);clear hA hB)
   exact a5t rfl w.heap.size ent0 rfl A5.out rfl ⟨rfl,B5.out⟩
  ·have hz2:24≤i:=by omega
   have hz0:0≤i:=by omega
   go_enter Tryz.func149,Tryz.ntmps149
   go_upto_region 1 with fail
   clear hW
   go_wp2_with (refine a0v rfl (.tmp 4) (.tmp 13) rfl rfl w.heap.size ent0 ent0 rfl rfl A0.out ?_;intro w5 hA hB _;have A5:=ι hA;have B5:=ι (HB0.out.trans hB);clear hA hB)
   exact a5t rfl w.heap.size ent0 rfl A5.out rfl ⟨rfl,B5.out⟩
end lk
namespace lk
set_option maxRecDepth 100000
open Go.ChangeShapes Go.WideShapes Go.ChangeAt Go.RowKit
open rows
open sec
open dsk (a0q a1r)
open ly
theorem c3y{ss:List (List Int)}{k:Nat}(h:k<ss.length):cellsOf (ss.take (k+1))=cellsOf (ss.take k)++u8s (secAt ss (k:Int)):=by
 have e:secAt ss (k:Int)=ss[k]:=by
  rw[secAt,if_pos ⟨by omega,by omega⟩]
  simp[List.getD,h]
 rw[e,List.take_succ_eq_append_getElem h,a7b,b9d]
set_option maxRecDepth 100000 in
set_option maxHeartbeats 1600000 in
theorem c7f(w:World)(d:Value)(ss:List (List Int))(h:Dk w d ss):Calls Tryz.prog 128 #[d] w fun e w'=>∃p c,e = .returned (.slice p ss.length c)∧Rd w' 32 (.slice p ss.length c) ss.length (cellsOf ss)∧Below w.heap.size w w':=by
 have HT:=ι fun(k:Nat) (hk:k<65) w' (hb:Below w.heap.size w w')=>dread w' d ss (k:Int) (h.later hb) (a0h (by omega))
 have HSC:=ι fun(k:Nat)=>a1n h.secs.1 (k:Int)
 have hl:=h.secs.2
 obtain⟨n,hn⟩:∃n,ss.length=n:=⟨_,rfl⟩
 have HN:=ι hn
 rw[hn] at hl HT ⊢
 clear h hn
 go_enter Tryz.func128,Tryz.ntmps128
 go_wp2
 go_loopw [3,4,5,6,7] (fun lv _ _ _ iv wr=>∃(k:Nat) (p:Option Addr) (c:Nat),k≤n∧iv = .int .i64 (k:Int)∧lv = .slice p k c∧Hid (Own wr w.heap.size 95 32 (.slice p k c) k (cellsOf (ss.take k)))∧Hid (Below w.heap.size w wr)) (fun _ _ _ _ iv _=>65-(intOf iv).toNat)
 case atStart=>exact⟨0,none,0,by omega,rfl,rfl,ι (a2n _ _ _ _),ι (Below.refl _ _)⟩
 case round =>
  obtain⟨k,p,c,hk,rfl,rfl,HO,HB⟩:=hrel
  by_cases h65:k<65
  ·have h65i:(k:Int)<65:=by omega
   have HTk:=ι (HT.out k h65 wr HB.out)
   have HS:=ι (HSC.out k)
   by_cases hlt:k<n
   ·have HC:=ι (c3y (ss:=ss) (k:=k) (by rw[HN.out];exact hlt))
    rw[if_pos ⟨by omega,by omega⟩] at HTk
    generalize secAt ss (k:Int)=s at *
    go_wp2_with (first|(go_at_call 59;refine HTk.out.mono ?_;rintro e w1 ⟨rfl,hb⟩;have B1:=ι (a0a HB.out hb);have O1:=ι (a0o HO.out hb);clear hb)|(refine a0j rfl (.tmp 5) (.tmp 14) rfl rfl w1.heap.size s zero32 rfl rfl HS.out.1 (by decide) (a1a w1) ?_;intro w2 hA hB _;have hb:=(a0b (Below.refl _ w1) _).trans hB;have B2:=ι (a0a B1.out hb);have O2:=ι (a0o O1.out hb);have S2:=ι hA;clear hA hB hb)|(refine a1t rfl (.tmp 5) rfl w1.heap.size rfl s HS.out.1 S2.out ?_)|(refine a0q elem_secs (by decide) rfl (.tmp 19) rfl (u8s s) rfl (by simp[u8s,HS.out.1]) ?_)|(at_builtin;refine a5s elem_secs rfl (.tmp 18) (.tmp 20) rfl w.heap.size _ k _ rfl (O2.out.alloc _) _ 1 (u8s s) rfl (a1r _ _ _ _ (by simp[u8s,HS.out.1])) (fun u hu=>a1y .u8 _ u hu) (by omega) (by rw[World.size_alloc];have:=B2.out.size;omega) ?_;intro pa ca wa ho hba;have HOA:=ι ho;have HBA:=ι hba;clear ho hba))
    go_roundw
    case rel=>exact⟨k+1,pa,ca,by omega,by go_num,rfl,ι (by rw[HC.out];exact HOA.out),ι ((B2.out.alloc B2.out.size _).trans HBA.out)⟩
    case measure=>simp[intOf];omega
   ·obtain rfl:k=n:=by omega
    rw[if_neg (by omega)] at HTk
    generalize secAt ss (k:Int)=s at *
    go_wp2_with (first|(go_at_call 59;refine HTk.out.mono ?_;rintro e w1 ⟨rfl,hb⟩;have B1:=ι (a0a HB.out hb);have O1:=ι (a0o HO.out hb);clear hb)|(refine a0j rfl (.tmp 5) (.tmp 14) rfl rfl w1.heap.size s zero32 rfl rfl HS.out.1 (by decide) (a1a w1) ?_;intro w2 hA hB _;have hb:=(a0b (Below.refl _ w1) _).trans hB;have B2:=ι (a0a B1.out hb);have O2:=ι (a0o O1.out hb);clear hA hB hb))
    go_ret
    have:=O2.out.rd
    rw[List.take_of_length_le (by rw[HN.out];exact Nat.le_refl _)] at this
    exact⟨p,c,rfl,this,B2.out⟩
  ·obtain rfl:k=65:=by omega
   have HE:Hid (ss.take 65=ss):=ι (List.take_of_length_le (by rw[HN.out];exact hl))
   have hn65:n=65:=by omega
   go_wp2_with fail
   go_ret
   have:=HO.out.rd
   rw[HE.out] at this
   subst hn65
   exact⟨p,c,rfl,this,HB.out⟩
theorem b1d(w:World)(d:Value)(ss:List (List Int))(h:Dk w d ss):Calls Tryz.prog 60 #[d] w (Rt w (.bool (mountsB ss))):=by
 have HI:=ι (c7f w d ss h)
 have HM:=ι fun p c w' (hr:Rd w' 32 (.slice p ss.length c) ss.length (cellsOf ss))=>c2i p ss.length c ss w' h.secs.1 hr (by have:=h.secs.2;unfold maxLen;omega)
 generalize mountsB ss=mb at *
 generalize ss.length=n at *
 clear h
 go_enter Tryz.func60,Tryz.ntmps60
 go_wp2_with (first|(go_at_call 128;refine HI.out.mono ?_;rintro e w1 ⟨p1,c1,rfl,hr,hb⟩;have R1:=ι hr;have B1:=ι hb;clear hr hb)|(go_at_call 127;refine(HM.out _ _ _ R1.out).mono ?_;rintro e w2 ⟨rfl,hb⟩;have B2:=ι (a0a B1.out hb);clear hb))
 go_ret
 exact⟨rfl,B2.out⟩
end lk
namespace al
set_option maxRecDepth 100000
open Go.ChangeShapes Go.WideShapes Go.ChangeAt Go.RowKit
open rows
open sec
open ly
open lk
theorem a8d(ss:List (List Int))(z:Int):(blkL ss z).length≤1000:=by
 have h:=(frB_len ss).1
 unfold blkL
 split
 ·rw[a3a,List.length_take];omega
 ·simp
end al
namespace al
set_option maxRecDepth 100000
open Go.ChangeShapes Go.WideShapes Go.ChangeAt Go.RowKit
open rows
open sec
open ly
open lk
theorem c4k{ss:List (List Int)}(hs:Secs ss)(i:Int)(h:(inoAt ss i).kind≠1):∀z∈(inoAt ss i).b,z=0:=by
 have f0:∀z∈ino0.b,z=0:=fun z hz=>by simp[ino0] at hz;exact hz
 unfold inoAt at h ⊢
 split
 ·rename_i hin
  rw[if_pos hin] at h
  rw[inoOfV] at h ⊢
  split
  ·rename_i hb
   rw[if_pos hb] at h
   rw[inoOfB,Bool.and_eq_true] at hb
   have hf:=a5c (a2v (a1n hs (1+i))) hb.1
   have hr:=hb.1
   have h02:(inoOf (secAt ss (1+i))).kind=0∨(inoOf (secAt ss (1+i))).kind=2:=by have:=hf.k0;have:=hf.k1;omega
   rw[a2w h02,Bool.and_eq_true,beq_iff_eq,beq_iff_eq] at hr
   intro z hz
   rw[hr.2] at hz
   simpa using hz
  ·exact f0
 ·exact f0
end al
namespace al
set_option maxRecDepth 100000
open Go.ChangeShapes Go.WideShapes Go.ChangeAt Go.RowKit
open rows
open sec
open ly
open lk
theorem b1f:rightE ent0=true:=by decide +kernel
theorem c2k(ss:List (List Int))(k:Int):rightE (entAt ss k)=true:=by
 unfold entAt
 split
 ·unfold entOfV
  split
  ·rename_i h
   rw[entOfB,Bool.and_eq_true] at h
   exact h.1
  ·exact b1f
 ·exact b1f
theorem c7m{ss:List (List Int)}{k:Int}(h:(entAt ss k).used=true):1≤(entAt ss k).target∧(entAt ss k).target<16:=by
 have hr:=c2k ss k
 rw[a4f h] at hr
 simp only[Bool.and_eq_true,decide_eq_true_eq] at hr
 exact⟨hr.1.1.2,hr.1.2⟩
def eU(ss:List (List Int)):Nat→List Bool
 | 0=>List.replicate 24 false
 | k+1=>if (entAt ss (k:Int)).used then (eU ss k).set k true else eU ss k
def iU(ss:List (List Int)):Nat→List Bool
 | 0=>true::List.replicate 15 false
 | k+1=>if (entAt ss (k:Int)).used then (iU ss k).set (entAt ss (k:Int)).target.toNat true else iU ss k
def bU(ss:List (List Int)):Nat→List Bool
 | 0=>marks0
 | n+1=>if takenB ss (n:Int) then setAll (bU ss n) (inoAt ss (n:Int)).b else bU ss n
theorem a7a(ss:List (List Int)):∀k,(eU ss k).length=24
 | 0=>by simp[eU]
 | k+1=>by
  rw[eU]
  split
  ·rw[List.length_set,a7a ss k]
  ·exact a7a ss k
theorem a6z(ss:List (List Int)):∀k,(iU ss k).length=16
 | 0=>by simp[iU]
 | k+1=>by
  rw[iU]
  split
  ·rw[List.length_set,a6z ss k]
  ·exact a6z ss k
theorem b0g(ss:List (List Int)):∀n,(bU ss n).length=25
 | 0=>by simp[bU,marks0]
 | n+1=>by
  rw[bU]
  split
  ·rw[a6o,b0g ss n]
  ·exact b0g ss n
theorem b4u{l:List Bool}{j k:Nat}(hj:j<l.length):(l.set k true).getD j false=(l.getD j false || decide (j=k)):=by
 by_cases e:j=k
 ·subst e;simp[List.getD,hj]
 ·have e2:k≠j:=fun h=>e h.symm
  simp[List.getD,List.getElem?_set,e2,e]
theorem d1v(ss:List (List Int))(j:Nat)(hj:j<24):∀k,(eU ss k).getD j false=(decide (j<k) && (entAt ss (j:Int)).used)
 | 0=>by rw[eU,List.getD,List.getElem?_replicate,if_pos hj];simp
 | k+1=>by
  rw[eU]
  by_cases e:j=k
  ·subst e
   cases hu:(entAt ss (j:Int)).used with
   | true=>rw[if_pos rfl,b4u (by rw[a7a];exact hj)];simp
   | false=>rw[if_neg (by decide),d1v ss j hj j,hu];simp
  ·have h1:decide (j<k+1)=decide (j<k):=decide_eq_decide.2 (by omega)
   rw[h1]
   cases hu:(entAt ss (k:Int)).used with
   | true=>rw[if_pos rfl,b4u (by rw[a7a];exact hj),d1v ss j hj k,decide_eq_false e,Bool.or_false]
   | false=>rw[if_neg (by decide),d1v ss j hj k]
theorem iU_at(ss:List (List Int))(n:Nat)(hn:n<16):∀k,(iU ss k).getD n false=(namedIn ss (n:Int) k || decide ((n:Int)=0))
 | 0=>by
  rw[iU,namedIn]
  cases n with
  | zero=>rfl
  | succ n =>
   have:decide (((n+1:Nat):Int)=0)=false:=decide_eq_false (by omega)
   rw[this,List.getD_cons_succ,List.getD,List.getElem?_replicate,if_pos (by omega)];rfl
 | k+1=>by
  rw[iU,a6a]
  cases hu:(entAt ss (k:Int)).used with
  | true =>
   have ht:=c7m hu
   have h1:decide (n=(entAt ss (k:Int)).target.toNat)=decide ((entAt ss (k:Int)).target=(n:Int)):=decide_eq_decide.2 (by omega)
   rw[if_pos rfl,b4u (by rw[a6z];exact hn),iU_at ss n hn k,h1,Bool.true_and,Bool.or_assoc,Bool.or_assoc,Bool.or_comm (decide _) (decide _)]
  | false=>rw[if_neg (by decide),iU_at ss n hn k,Bool.false_and,Bool.or_false]
theorem c0d(ss:List (List Int))(n:Nat)(hn:n<16):(iU ss 24).getD n false=takenB ss (n:Int):=by rw[iU_at ss n hn 24,takenB]
theorem eU_used(ss:List (List Int))(j:Nat)(hj:j<24):(eU ss 24).getD j false=(entAt ss (j:Int)).used:=by rw[d1v ss j hj 24,decide_eq_true hj,Bool.true_and]
theorem bU_at{ss:List (List Int)}(hs:Secs ss)(b:Nat)(h1:1≤b)(hb:b<25):∀n,(bU ss n).getD b false=hasU ss b n
 | 0=>by rw[bU,marks0,List.getD,List.getElem?_replicate,if_pos hb];rfl
 | n+1=>by
  rw[bU,b5n,liveB]
  cases ht:takenB ss (n:Int) with
  | false=>rw[if_neg (by decide),bU_at hs b h1 hb n,Bool.and_false,Bool.false_and,Bool.or_false]
  | true =>
   rw[if_pos rfl,b7t _ (fun z hz=>((a7m hs _).b z hz).1) _ b (by rw[b0g];exact hb),bU_at hs b h1 hb n,Bool.and_true]
   by_cases hk:(inoAt ss (n:Int)).kind=1
   ·rw[decide_eq_true hk,Bool.true_and]
   ·rw[decide_eq_false hk,Bool.false_and,Bool.or_false]
    have:(inoAt ss (n:Int)).b.contains (b:Int)=false:=by
     cases hc:(inoAt ss (n:Int)).b.contains (b:Int) with
     | false=>rfl
     | true =>
      have:=c4k hs (n:Int) hk _ (List.contains_iff_mem.1 hc)
      omega
    rw[this,Bool.or_false]
theorem b9h{ss:List (List Int)}(hs:Secs ss)(b:Nat)(h1:1≤b)(hb:b<25):(bU ss 16).getD b false=usedB ss b:=by
 rw[bU_at hs b h1 hb 16,usedB,show (b == 0)=false from beq_eq_false_iff_ne.2 (by omega),Bool.false_or]
theorem a8t{p q:Nat→Bool}:∀{k:Nat},(∀i,i<k→p i=q i)→upto p k=upto q k
 | 0,_=>rfl
 | k+1,h=>by rw[upto_succ,upto_succ,h k (by omega),a8t (k:=k) fun i hi=>h i (by omega)]
def nextF(l:List Bool)(f:Nat):Option Nat:=upto (fun n=>decide (f≤n) && !l.getD n false) l.length
theorem c3k{l:List Bool}{f n:Nat}(h:nextF l f=some n):f≤n∧n<l.length∧l.getD n false=false∧∀i,f≤i→i<n→l.getD i false=true:=by
 obtain⟨h1,h2,h3⟩:=a2z h
 rw[Bool.and_eq_true,decide_eq_true_eq,Bool.not_eq_true'] at h2
 refine⟨h2.1,h1,h2.2,fun i hi hin => ?_⟩
 have:=h3 i hin
 rw[decide_eq_true hi,Bool.true_and,Bool.not_eq_false'] at this
 exact this
theorem c1w{l:List Bool}{f:Nat}(h:nextF l f=none):∀i,f≤i→i<l.length→l.getD i false=true:=fun i hi hin=>by
 have:=upto_none.1 h i hin
 rw[decide_eq_true hi,Bool.true_and,Bool.not_eq_false'] at this
 exact this
theorem c8q{l:List Bool}{f n:Nat}(h1:f≤n)(h2:n<l.length)(h3:l.getD n false=false)(h4:∀i,f≤i→i<n→l.getD i false=true):nextF l f=some n:=by
 refine a6u (upto_none.2 fun i hi => ?_) (by rw[decide_eq_true h1,h3];rfl) _ h2
 by_cases e:f≤i
 ·rw[h4 i e hi];simp
 ·rw[decide_eq_false e];rfl
theorem c3x{l:List Bool}{f:Nat}(h:∀i,f≤i→i<l.length→l.getD i false=true):nextF l f=none :=
 upto_none.2 fun i hi=>by
  by_cases e:f≤i
  ·rw[h i e hi];simp
  ·rw[decide_eq_false e];rfl
theorem d0o(ss:List (List Int)):nextF (iU ss 24) 0=frI ss:=by
 rw[nextF,a6z,frI]
 exact a8t fun i hi=>by rw[c0d ss i hi,decide_eq_true (Nat.zero_le i),Bool.true_and]
theorem d0p(ss:List (List Int)):nextF (eU ss 24) 0=frE ss:=by
 rw[nextF,a7a,frE]
 exact a8t fun i hi=>by rw[eU_used ss i hi,decide_eq_true (Nat.zero_le i),Bool.true_and]
theorem b3x{ss:List (List Int)}{f:Nat}:∀{n:Nat},f≤n→(∀i,f≤i→i<n→usedB ss i=true)→frU ss n=frU ss f
 | 0,h,_=>by
   obtain rfl:f=0:=by omega
   rfl
 | n+1,h,hu=>by
  by_cases e:f=n+1
  ·rw[e]
  ·rw[frU,hu n (by omega) (by omega),if_pos rfl,b3x (n:=n) (by omega) fun i hi hin=>hu i hi (by omega)]
theorem c9z{ss:List (List Int)}(hs:Secs ss){f n:Nat}(hf:1≤f)(h:nextF (bU ss 16) f=some n):f≤n∧n<25∧frU ss (n+1)=frU ss f++[n]:=by
 obtain⟨h1,h2,h3,h4⟩:=c3k h
 rw[b0g] at h2
 refine⟨h1,h2,?_⟩
 rw[b9h hs n (by omega) h2] at h3
 rw[frU,h3,if_neg (by decide),b3x h1 fun i hi hin=>by rw[← b9h hs i (by omega) (by omega)];exact h4 i hi hin]
theorem blk_end{ss:List (List Int)}(hs:Secs ss){f:Nat}(hf:1≤f)(hf2:f≤25)(h:nextF (bU ss 16) f=none):frU ss 25=frU ss f:=by
 have h4:=c1w h
 rw[b0g] at h4
 exact b3x hf2 fun i hi hin=>by rw[← b9h hs i (by omega) hin];exact h4 i hi hin
end al
namespace al
set_option maxRecDepth 100000
open Go.ChangeShapes Go.WideShapes Go.ChangeAt Go.RowKit
open rows
open sec
open dsk (wf64 InS)
open ly
open lk
theorem c8h{w:World}{B:Nat}{e:TypeId}{sz n:Nat}{v:Value}{cs:List Value}(h:rows.Own w B e sz v n cs):InS (fun b=>B≤b) v:=by
 intro a m c hv hm
 rcases h.2 with⟨h1,h2⟩|⟨g,cap,cur,h1,h2,h3,_⟩
 ·rw[hv] at h1;cases h1
 ·rw[hv] at h1
  cases h1
  exact h2
theorem c0i{S:Nat→Prop}:InS S (.slice none 0 0):=fun a n c hv hn=>by cases hv
set_option maxRecDepth 100000 in
set_option maxHeartbeats 3200000 in
theorem d1s(p:Option Addr)(n c:Nat)(ss:List (List Int))(w:World)(h:Rd w 32 (.slice p n c) n (cellsOf ss))(hs:Secs ss)(hn:n≤100000)(z:Int)(hz:wf64 z) :
  Calls Tryz.prog 70 #[.slice p n c,.int .i64 z] w fun e w'=>∃q m k,e = .returned (.tuple #[.slice q m k,.bool (blkB ss z)])∧m=(blkL ss z).length∧Rd w' 1 (.slice q m k) m (i64s (blkL ss z))∧InS (fun b=>w.heap.size≤b) (.slice q m k)∧Below w.heap.size w w':=by
 have HU:=ι (c5l p n c ss w h hs hn)
 have HML:=ι (b0f ss)
 have HMA:=ι fun b hb=>c2d hs b hb
 have HD:=ι fun(b:Nat) (hb:b≤25) (hl:((frU ss b).length:Int)=z)=>c1n hb hl
 have HNo:=ι fun hl=>c6b (ss:=ss) (z:=z) hl
 obtain⟨z1,z2⟩:=rows.wf_i64 hz
 generalize blkL ss z=L at *
 generalize blkB ss z=B at *
 generalize hmo:marksOf ss=mo at HU HML HMA
 clear hmo h hs hz
 go_enter Tryz.func70,Tryz.ntmps70
 go_wp2_with (first|(go_at_call 135;refine HU.out.mono ?_;rintro e w1 ⟨rfl,hb⟩;have B1:=ι hb;clear hb)|(refine c7e rfl (.tmp 7) (.tmp 10) rfl rfl w1.heap.size mo marks0 rfl rfl HML.out (by decide) (b9g w1) ?_;intro w2 hA hB;have hb:=(a0b (Below.refl _ w1) _).trans hB;have B2:=ι (a0a B1.out hb);have A2:=ι hA;have hgg:=ι B1.out.size;clear hA hB hb))
 go_loopw [6,8] (fun lv bv wr=>∃(b:Nat) (q:Option Addr) (m k:Nat),1≤b∧b≤25∧bv = .int .i64 (b:Int)∧lv = .slice q m k∧m=(frU ss b).length∧((m:Int)≤z∨(m=0∧z<0))∧Hid (Own wr w2.heap.size 3 1 (.slice q m k) m (i64s (ofNats (frU ss b))))∧Hid (AtM wr w1.heap.size mo)∧Hid (Below w2.heap.size w2 wr)) (fun _ bv _=>25-(intOf bv).toNat)
 case atStart=>exact⟨1,none,0,0,by omega,by omega,rfl,rfl,by simp[frU,used0],by omega,ι (by simp[frU,used0,ofNats,i64s];exact a2n _ _ _ _),A2,ι (Below.refl _ _)⟩
 case round =>
  obtain⟨b,q,m,k,hb1,hb2,rfl,rfl,hm,hmz,HO,HA,HB⟩:=hrel
  have HMm:=ι hm
  have hfl:=b8l ss b
  rw[← hm] at hfl
  clear hm
  by_cases hlt:b≤24
  ·have hlti:(b:Int)≤24:=by omega
   have hb1i:(1:Int)≤b:=by omega
   by_cases hmlt:(m:Int)<z
   ·have hcb:=HA.out.cell (k:=b) (by rw[HML.out];omega)
    rw[HMA.out b (by omega)] at hcb
    have HNX:=ι fun u hu=>d0r (ss:=ss) b u hu
    cases hu:usedB ss b with
    | true =>
     rw[hu] at hcb
     have HS:=ι (HNX.out true hu)
     clear HNX hu
     go_wp2_with fail
     go_roundw
     case rel=>exact⟨b+1,q,m,k,by omega,by omega,by go_num,rfl,by rw[HS.out];exact HMm.out,hmz,by rw[HS.out];exact HO,HA,HB⟩
     case measure=>simp[intOf];omega
    | false =>
     rw[hu] at hcb
     have HS:=ι (HNX.out false hu)
     clear HNX hu
     go_wp2_with (at_builtin;refine a5s c5s rfl (.tmp 25) (.tmp 27) rfl w2.heap.size _ m _ rfl (HO.out.alloc _) _ 1 [.int .i64 (b:Int)] rfl (b1g _ _ 1 #[.int .i64 (b:Int)] rfl) (by simp[Value.oneCell']) (by omega) (by have:=HB.out.size;simp;omega) ?_;intro pa ca wa ho hb;have HO2:=ι ho;have HBa:=ι ((a0b HB.out _).trans hb);have HAa:Hid (AtM wa w1.heap.size mo):=ι ((hb.block _ A2.out.lt).trans (HA.out.later (a0b (Below.refl _ _) _)));clear ho hb)
     go_roundw
     case rel=>exact⟨b+1,pa,m+1,ca,by omega,by omega,by go_num,rfl,by rw[HS.out];simp;exact HMm.out,by omega,by rw[HS.out];simp only[Bool.false_eq_true,if_false];rw[b0v,← b6y];exact HO2,HAa,HBa⟩
     case measure=>simp[intOf];omega
   ·have hmge:z≤(m:Int):=by omega
    by_cases hze:(m:Int)=z
    ·have hD:=HD.out b (by omega) (by rw[← HMm.out];exact hze)
     obtain⟨e1,e2⟩:=hD
     have E2:=ι e2
     subst e1
     clear e2
     subst hze
     clear hmz hmge
     go_wp2_with fail
     go_ret2
     exact⟨q,m,k,rfl,by rw[E2.out,a3a];exact HMm.out,by rw[E2.out];exact HO.out.rd,(c8h HO.out).mono fun b hb=>Nat.le_trans B2.out.size hb,a0a B2.out HB.out⟩
    ·have hm0:m=0:=by omega
     have hzn:z<0:=by omega
     obtain⟨e1,e2⟩:=HNo.out (Or.inl hzn)
     have E2:=ι e2
     subst e1
     clear e2
     have hne:((m:Int) != z)=true:=by simpa using hze
     clear hmz hze
     go_wp2_with fail
     go_ret2
     exact⟨none,0,0,rfl,by rw[E2.out];rfl,by rw[E2.out];exact a2g _ 1,c0i,a0a B2.out HB.out⟩
  ·obtain rfl:b=25:=by omega
   by_cases hze:(m:Int)=z
   ·obtain⟨e1,e2⟩:=HD.out 25 (by omega) (by rw[← HMm.out];exact hze)
    have E2:=ι e2
    subst e1
    clear e2
    subst hze
    clear hmz
    go_wp2_with fail
    go_ret2
    exact⟨q,m,k,rfl,by rw[E2.out,a3a];exact HMm.out,by rw[E2.out];exact HO.out.rd,(c8h HO.out).mono fun b hb=>Nat.le_trans B2.out.size hb,a0a B2.out HB.out⟩
   ·obtain⟨e1,e2⟩:=HNo.out (by rw[← HMm.out];omega)
    have E2:=ι e2
    subst e1
    clear e2
    have hne:((m:Int) != z)=true:=by simpa using hze
    clear hmz hze
    go_wp2_with fail
    go_ret2
    exact⟨none,0,0,rfl,by rw[E2.out];rfl,by rw[E2.out];exact a2g _ 1,c0i,a0a B2.out HB.out⟩
end al
end Go.Proofs.YtiaapfijbidgnaaGreatDoor
