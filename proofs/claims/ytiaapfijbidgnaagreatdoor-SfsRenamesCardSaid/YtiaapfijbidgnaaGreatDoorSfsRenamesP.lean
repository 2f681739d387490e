/- What SfsRenames wants, part 16. -/
import Derived.Test.YtiaapfijbidgnaaGreatDoorSfsRenamesA
import Derived.Test.YtiaapfijbidgnaaGreatDoorSfsRenamesB
import Derived.Test.YtiaapfijbidgnaaGreatDoorSfsRenamesC
import Derived.Test.YtiaapfijbidgnaaGreatDoorSfsRenamesH
import Derived.Test.YtiaapfijbidgnaaGreatDoorSfsRenamesK
import Derived.Test.YtiaapfijbidgnaaGreatDoorSfsRenamesM
import Derived.Outline
set_option linter.unusedVariables false
set_option linter.unusedSimpArgs false
namespace Go.Proofs.YtiaapfijbidgnaaGreatDoor
namespace sec
set_option maxRecDepth 100000
open Go.ChangeShapes Go.WideShapes Go.ChangeAt Go.RowKit
open rows
theorem b3l{w:World}{g j:Nat}{s:List Int}(h:At w g s)(z:Int):At (w.setCell ⟨g,j,none⟩ (.int .u8 z)) g (s.set j z):=by
 have:=dsk.a0d (i:=j) h (.int .u8 z)
 rw[At,this]
 simp[u8s,List.map_set]
theorem a3n{w:World}{g k j:Nat}{s:List Int}(h:At w k s)(hk:k≠g)(v:Value):At (w.setCell ⟨g,j,none⟩ v) k s:=(Below.heap_setCell _ _ _ _ hk).trans h
end sec
namespace dsk
set_option maxRecDepth 100000
open Go.ChangeShapes Go.WideShapes Go.ChangeAt Go.RowKit
open rows
open sec
open cho (IntsIn b2s)
open choMath
def eps(ws:List Wr):List Int:=ws.map Wr.ep
def stV(ps:Option Addr)(n cs:Nat)(pw:Option Addr)(m cw:Nat):Value := .agg #[.slice ps n cs,.slice pw m cw]
def RowI(w:World)(g:Nat)(zs:List Int):Prop:=w.heap[g]? = some (.cells (i64s zs).toArray 3 (0,0))
theorem c9y{w:World}{B g n:Nat}(h:w.ownsRow B 3 1 (.slice (some ⟨g,0,none⟩) n n) n (madeCells (Value.int .i64 0).cells (n * 1)).toList):RowI w g (List.replicate n 0):=by
 have hz:(Value.int .i64 0).cells=(List.replicate 1 (Value.int .i64 0)).toArray:=rfl
 rw[hz,c3v 1 _ _ (by decide),Nat.mul_one] at h
 rcases h.2 with⟨h2,_⟩|⟨g',cap,cur,h1,h2,h3,h4,h5,h6,h7⟩
 ·cases h2
 ·cases h1
  rw[Nat.mul_one] at h6 h7
  rw[List.take_of_length_le (by simp[h6])] at h7
  rw[RowI,i64s,List.map_replicate,← h7]
  exact h3
theorem d1r{w:World}{g:Nat}{zs:List Int}(h:RowI w g zs)(i:Nat)(z:Int):RowI (w.setCell ⟨g,i,none⟩ (.int .i64 z)) g (zs.set i z):=by
 have:=a0d (i:=i) h (.int .i64 z)
 rw[RowI,this]
 simp[i64s,List.map_set]
theorem d0l{w:World}{g:Nat}{zs:List Int}(h:RowI w g zs){i:Nat}(hi:i<zs.length):w.cell? ⟨g,i,none⟩=some (.int .i64 zs[i]):=a0c h i _ (by simp[i64s,hi])
theorem d4m{w:World}{B g:Nat}{zs:List Int}(h:RowI w g zs)(hB:B≤g)(hl:zs.length≤maxLen):Own w B 3 1 (.slice (some ⟨g,0,none⟩) zs.length zs.length) zs.length (i64s zs) :=
 ⟨by simp[i64s],Or.inr ⟨g,zs.length,_,rfl,hB,h,Nat.le_refl _,hl,by simp[i64s],by simp[i64s,List.take_of_length_le]⟩⟩
def epUpto(ws:List Wr)(j:Nat):List Int:=eps (ws.take j)++List.replicate (ws.length-j) 0
theorem c4t(ws:List Wr)(j:Nat)(h:j≤ws.length):(epUpto ws j).length=ws.length:=by simp[epUpto,eps];omega
theorem c4u(ws:List Wr)(j:Nat)(h:j<ws.length):(epUpto ws j).set j ws[j].ep=epUpto ws (j+1):=by
 have h1:(eps (ws.take j)).length=j:=by simp[eps];omega
 rw[epUpto,List.set_append_right _ _ (by omega),h1,Nat.sub_self,show ws.length-j=(ws.length-(j+1))+1 by omega,List.replicate_succ,List.set_cons_zero,epUpto,List.take_succ_eq_append_getElem h,eps,eps,List.map_append,List.append_assoc]
 rfl
theorem c5n(ws:List Wr):epUpto ws ws.length=eps ws:=by simp[epUpto]
theorem c4x{w:World}{p:Option Addr}{n c:Nat}{zs:List Int}(h:Rd w 1 (.slice p n c) n (i64s zs)):IntsIn w (.slice p n c) zs:=by
 rcases h with⟨p',cap',h1,rfl,h2,_⟩|⟨b,off,cap',h1,h2,h3,h4,h5,h6,h7⟩
 ·cases h1
  exact Or.inl ⟨p,c,rfl,by simpa [i64s] using h2⟩
 ·cases h1
  have hl:zs.length=n:=by simpa [i64s] using h6
  subst hl
  exact Or.inr ⟨b,off,c,rfl,h2,h5,fun i hi=>h7 i _ (by simp[i64s,List.getD,hi])⟩
set_option maxRecDepth 100000 in
set_option maxHeartbeats 1600000 in
theorem cepochs(ps:Option Addr)(n cs:Nat)(pw:Option Addr)(m cw:Nat)(ws:List Wr)(w:World)(hs:∀x∈ws,Sec x.s)(h:Rd w 36 (.slice pw m cw) m (wrsC ws))(hm:m≤1000) :
  Calls Tryz.prog 118 #[stV ps n cs pw m cw] w fun e w'=>∃p c,e = .returned (.slice p m c)∧Own w' w.heap.size 3 1 (.slice p m c) m (i64s (eps ws))∧Below w.heap.size w w':=by
 have HR:=ι h
 have HWC:=ι fun x hx=>Wr.c_len (hs x hx)
 have hml:ws.length=m:=Rd.count Wr.c h (fun x hx=>Wr.c_len (hs x hx)) (by decide)
 have HML:=ι hml
 have HS:=ι hs
 have hm1:(m:Int)≤1000:=by omega
 clear h hml hs
 obtain⟨i0,hi,hz0,hz1,hz2⟩:=info_parts elem_ints.info
 unfold stV
 go_enter Tryz.func118,Tryz.ntmps118
 go_wp2_with (first|(at_make;refine wpList_make_full _ rfl _ _ 39 rfl w.heap.size 3 i0 (.int .i64 0) 1 Tryz.underlying39 hi hz0 hz1 .i64 .i64 _ _ m rfl rfl rfl rfl (by rw[hz2];omega) (by unfold maxLen;omega) (by rw[size_alloc];omega) ?_;intro w3 ho3 hg3;have R3:=ι (c9y ho3);have hb3:=a9e hg3;have HRB:=ι (a0w (heap_alloc_new _ _) hb3 (by rw[size_alloc];omega));have c1:=a0c HRB.out 1 _ rfl;clear ho3 hg3))
 have hb3w:Below w.heap.size w w3:=(a0a (Below.refl _ w) _).trans (hb3.mono (by rw[size_alloc];omega))
 have R3b:Hid (RowI w3 (w.heap.size+1) (epUpto ws 0)):=ι (by have:=R3.out;rw[size_alloc] at this;simpa [epUpto,eps,HML.out] using this)
 have hs3:w.heap.size+1<w3.heap.size:=(Array.getElem?_eq_some_iff.1 R3b.out).1
 clear R3 hb3 HRB hi hz0 hz1 hz2 c1
 go_loopw [13] (fun iv wr=>∃(j:Nat),j≤m∧iv = .int .i64 (j:Int)∧Hid (RowI wr (w.heap.size+1) (epUpto ws j))∧Below w.heap.size w wr∧w.heap.size+1<wr.heap.size) (fun iv _=>m-(intOf iv).toNat)
 case atStart=>exact⟨0,by omega,rfl,R3b,hb3w,hs3⟩
 case round =>
  clear R3b hb3w
  obtain⟨j,hj,rfl,HRW,hbr,hsr⟩:=hrel
  by_cases ha:j<m
  ·have ha1:(j:Int)<m:=by omega
   have hjl:j<ws.length:=by rw[HML.out];exact ha
   obtain⟨b1,o1,rfl,hc1,hmm1,hh1,hl1,HR1⟩:=Rd.chunk Wr.c HR.out HWC.out (by decide) ha
   have HRG:=ι (Rd.rangeLater (HR1 j hjl) hh1 hbr)
   have HSX:=ι (HS.out _ (List.getElem_mem hjl))
   have HST:=ι (c4u ws j hjl)
   have HEL:=ι (c4t ws j (by omega))
   generalize ws[j]=x at *
   clear HR1 hl1
   go_wp2_with (first|(refine a3o rfl (.tmp 16) rfl b1 (o1+j * 36) rfl x HSX.out HRG.out ?_)|(refine a6y rfl _ _ rfl rfl wr.heap.size x w0 rfl rfl HSX.out a0g (a9k wr) ?_;intro w2 hx2 hb2;have hbw:=(a0a (Below.refl _ wr) _).trans hb2;clear hb2;have HRW2:=ι (a0w HRW.out hbw hsr);obtain⟨_,_,_,_,c35⟩:=AtW.parts hx2 HSX.out;clear hx2;have cfr:=a0e HRW2.out j;have hcj:=d0l HRW2.out (i:=j) (by rw[HEL.out,HML.out];exact ha)))
   go_roundw
   case rel=>exact⟨j+1,by omega,by go_num,ι (by rw[← HST.out];exact d1r HRW2.out j x.ep),(hbr.trans (hbw.mono hbr.size)).setCell (p:=⟨w.heap.size+1,j,none⟩) (by show w.heap.size≤w.heap.size+1;omega) _,by rw[a4m];have:=hbw.size;omega⟩
   case measure=>simp[intOf];omega
  ·obtain rfl:m=j:=by omega
   go_wp2_with fail
   go_ret
   refine⟨some ⟨w.heap.size+1,0,none⟩,m,rfl,?_,hbr⟩
   have:=HRW.out
   rw[← HML.out,c5n] at this
   have h2:=d4m this (B:=w.heap.size) (by omega) (by rw[eps,List.length_map,HML.out];unfold maxLen;omega)
   rwa [show (eps ws).length=m by rw[eps,List.length_map,HML.out]] at h2
set_option maxRecDepth 100000 in
theorem callowed(c:Nat)(ps:Option Addr)(n cs:Nat)(pw:Option Addr)(m cw:Nat)(ws:List Wr)(w:World)(hc:c<18446744073709551616)(hs:∀x∈ws,Sec x.s)(h:Rd w 36 (.slice pw m cw) m (wrsC ws))(hm:m≤1000) :
  Calls Tryz.prog 101 #[stV ps n cs pw m cw,.int .u64 (c:Int)] w (Rt w (.bool (alB c (eps ws)))):=by
 have HE:=ι fun w' (hb:Below w.heap.size w w')=>cepochs ps n cs pw m cw ws w' hs (h.later hb) hm
 have HC:=ι hc
 clear h hs hc
 unfold stV at *
 go_enter Tryz.func101,Tryz.ntmps101
 go_wp2_with (first|(go_at_call 118;refine(HE.out _ (a0a (Below.refl _ w) _)).mono ?_;rintro e w2 ⟨p2,c2,rfl,ho2,hb2⟩;have HI:=ι (c4x ho2.rd);have hb2w:=(a0a (Below.refl _ w) _).trans (hb2.mono (by rw[size_alloc];omega));clear ho2 hb2)|(go_at_call 157;refine(b2s c _ _ _ HC.out HI.out).mono ?_;rintro e w3 ⟨rfl,rfl⟩))
 go_ret
 exact⟨rfl,hb2w⟩
end dsk
namespace dsk
set_option maxRecDepth 100000
open Go.ChangeShapes Go.WideShapes Go.ChangeAt Go.RowKit
open rows
open sec
open choMath
def missB(n:Nat)(x:Wr):Bool := !decide (0≤x.pos∧x.pos<(n:Int))
def tornOf(o s:List Int):List Int:=s.take 16++o.drop 16
def imgStep(c:Nat)(o:List (List Int))(i:Nat)(x:Wr):List (List Int) :=
 if fate c (i:Int)=1 then o.set x.pos.toNat x.s else if fate c (i:Int)=2 then o.set x.pos.toNat (tornOf (o.getD x.pos.toNat []) x.s) else o
def imgUpto(c:Nat)(ws:List Wr)(ss:List (List Int)):Nat→List (List Int)
 | 0=>ss
 | j+1=>match ws[j]? with|some x=>imgStep c (imgUpto c ws ss j) j x|none=>imgUpto c ws ss j
theorem b8n(c:Nat)(ws:List Wr)(ss:List (List Int))(j:Nat)(h:j<ws.length):imgUpto c ws ss (j+1)=imgStep c (imgUpto c ws ss j) j ws[j]:=by
 rw[imgUpto,List.getElem?_eq_getElem h]
theorem c0o(c:Nat)(o:List (List Int))(i:Nat)(x:Wr):(imgStep c o i x).length=o.length:=by
 unfold imgStep;split
 ·simp
 ·split<;>simp
theorem a5x(c:Nat)(ws:List Wr)(ss:List (List Int)):∀j,(imgUpto c ws ss j).length=ss.length
 | 0=>rfl
 | j+1=>by
  rw[imgUpto]
  split
  ·rw[c0o,a5x c ws ss j]
  ·exact a5x c ws ss j
theorem b6v{o s:List Int}(ho:Sec o)(hs:Sec s):Sec (tornOf o s):=by
 refine⟨by simp[tornOf,ho.1,hs.1],fun x hx => ?_⟩
 rcases List.mem_append.1 hx with h|h
 ·exact hs.2 x (List.mem_of_mem_take h)
 ·exact ho.2 x (List.mem_of_mem_drop h)
theorem b8r{o:List (List Int)}(h:Secs o){i:Nat}(hi:i<o.length):Sec (o.getD i []):=by
 have:o.getD i []=o[i]:=by simp[List.getD,hi]
 rw[this];exact h _ (List.getElem_mem hi)
theorem b8t(c:Nat){o:List (List Int)}(i:Nat){x:Wr}(h:Secs o)(hx:Sec x.s)(hp:missB o.length x=false):Secs (imgStep c o i x):=by
 have hp2:x.pos.toNat<o.length:=by
  rw[missB,Bool.not_eq_false',decide_eq_true_eq] at hp
  omega
 unfold imgStep;split
 ·exact a2t h hx _
 ·split
  ·exact a2t h (b6v (b8r h hp2) hx) _
  ·exact h
theorem a6q(c:Nat)(ws:List Wr)(ss:List (List Int))(hs:Secs ss)(hw:∀x∈ws,Sec x.s):∀j,(∀k (hk:k<ws.length),k<j→missB ss.length ws[k]=false)→Secs (imgUpto c ws ss j)
 | 0,_=>hs
 | j+1,hm=>by
  have ih:=a6q c ws ss hs hw j fun k hk hj=>hm k hk (by omega)
  rw[imgUpto]
  split
  ·rename_i x hx
   obtain⟨hj,rfl⟩:=List.getElem?_eq_some_iff.1 hx
   exact b8t c j ih (hw _ (List.getElem_mem hj)) (by rw[a5x];exact hm j hj (by omega))
  ·exact ih
def imgOk(c:Nat)(ws:List Wr)(n:Nat):Bool:=alB c (eps ws) && !(ws.any (missB n))
def ImgDone(c:Nat)(ss:List (List Int))(ws:List Wr)(n:Nat)(w:World)(e:Ending)(w':World):Prop :=
 Below w.heap.size w w'∧((imgOk c ws n=false∧e = .returned (.tuple #[.slice none 0 0,.bool false])) ∨
  (imgOk c ws n=true∧∃p cc,e = .returned (.tuple #[.slice p n cc,.bool true])∧Own w' w.heap.size 95 32 (.slice p n cc) n (cellsOf (imgUpto c ws ss ws.length))))
theorem cwithin(i:Int)(n:Nat)(w:World)(hn:n≤1000) :
  Calls Tryz.prog 100 #[.int .i64 i,.int .i64 (n:Int)] w fun e w'=>e = .returned (.bool (decide (0≤i∧i<(n:Int))))∧w=w':=by
 obtain⟨d,hd⟩:∃d,decide (0≤i∧i<(n:Int))=d:=⟨_,rfl⟩
 have HD:=ι hd
 rw[hd];clear hd
 by_cases h0:0≤i
 ·by_cases h1:i<(n:Int)
  ·have hdt:d=true:=by rw[← HD.out];exact decide_eq_true ⟨h0,h1⟩
   subst hdt
   go_enter Tryz.func100,Tryz.ntmps100
   go_wp2
   go_ret
   exact⟨rfl,rfl⟩
  ·have hdt:d=false:=by rw[← HD.out];exact decide_eq_false (by omega)
   subst hdt
   go_enter Tryz.func100,Tryz.ntmps100
   go_wp2
   go_ret
   exact⟨rfl,rfl⟩
 ·have hdt:d=false:=by rw[← HD.out];exact decide_eq_false (by omega)
  subst hdt
  go_enter Tryz.func100,Tryz.ntmps100
  go_wp2
  go_ret
  exact⟨rfl,rfl⟩
set_option maxRecDepth 100000 in
theorem cmissing(bx:Nat)(ps:Option Addr)(n cs:Nat)(vw:Value)(x:Wr)(w:World)(hb:w.heap[bx]? = some (.cells #[.slice ps n cs,vw] 67 (0,0)))(hs:Sec x.s)(hn:n≤1000) :
  Calls Tryz.prog 99 #[.agg x.c.toArray,.pointer (some ⟨bx,0,none⟩)] w (Rt w (.bool (missB n x))):=by
 have HB:=ι hb
 have HS:=ι hs
 have hn1:(n:Int)≤1000:=by omega
 have hx1:AtW (w.alloc (.cells x.c.toArray 99)) w.heap.size x:=heap_alloc_new _ _
 have cb:(w.alloc (.cells x.c.toArray 99)).cell? ⟨bx,0,none⟩=some (.slice ps n cs):=a0c (a2g hb _) 0 _ rfl
 obtain⟨c0,_⟩:=AtW.parts hx1 hs
 have hbw:Below w.heap.size w (w.alloc (.cells x.c.toArray 99)):=a0a (Below.refl _ _) _
 have HW:=ι cwithin
 obtain⟨d,hd⟩:∃d,decide (0≤x.pos∧x.pos<(n:Int))=d:=⟨_,rfl⟩
 have HD:=ι hd
 have hmd:missB n x = !d:=by rw[missB,hd]
 rw[hmd]
 clear hb hs hx1 hd hmd
 go_enter Tryz.func99,Tryz.ntmps99
 have HBW:=ι hbw
 clear hbw
 go_wp2_with (go_at_call 100;refine(HW.out x.pos n _ hn).mono ?_;rintro e w2 ⟨he,rfl⟩;rw[HD.out] at he;subst he)
 go_ret
 exact⟨rfl,HBW.out⟩
end dsk
namespace dsk
set_option maxRecDepth 100000
open Go.ChangeShapes Go.WideShapes Go.ChangeAt Go.RowKit
open rows
open sec
open cho (a6o)
open choMath
theorem d2q{α:Type}(f:α→Bool)(l:List α){j:Nat}(h:j<l.length)(h0:(l.take j).any f=false):(l.take (j+1)).any f=f l[j]:=by
 rw[List.take_succ_eq_append_getElem h,List.any_append,h0];simp
theorem c1k{α:Type}(f:α→Bool)(l:List α)(j:Nat)(h:(l.take j).any f=true):l.any f=true:=by
 rw[List.any_eq_true] at h ⊢
 obtain⟨x,hx,hf⟩:=h
 exact⟨x,List.mem_of_mem_take hx,hf⟩
def missV(bx:Nat):Value := .func (.func 99) #[] #[.pointer (some ⟨bx,0,none⟩)]
set_option maxRecDepth 100000 in
set_option maxHeartbeats 1600000 in
theorem cindex(bx:Nat)(ps:Option Addr)(n cs:Nat)(vw:Value)(p:Option Addr)(m c:Nat)(ws:List Wr)(w:World)(hb:w.heap[bx]? = some (.cells #[.slice ps n cs,vw] 67 (0,0)))(hs:∀x∈ws,Sec x.s)(hn:n≤1000)
  (h:Rd w 36 (.slice p m c) m (wrsC ws)) (hm:m≤1000) :
  Calls Tryz.prog 158 #[.slice p m c,missV bx] w fun e w'=>(∃r:Int,e = .returned (.int .i64 r)∧decide (0≤r)=ws.any (missB n))∧Below w.heap.size w w':=by
 have HR:=ι h
 have HWC:=ι fun x hx=>Wr.c_len (hs x hx)
 have hml:ws.length=m:=Rd.count Wr.c h (fun x hx=>Wr.c_len (hs x hx)) (by decide)
 have HML:=ι hml
 have HS:=ι hs
 have HB:=ι hb
 have hbl:bx<w.heap.size:=(Array.getElem?_eq_some_iff.1 hb).1
 have hm1:(m:Int)≤1000:=by omega
 clear h hml hs hb
 unfold missV
 go_enter Tryz.func158,Tryz.ntmps158
 go_wp2
 go_loopw [8] (fun iv wr=>∃(j:Nat),j≤m∧iv = .int .i64 (j:Int)∧Hid ((ws.take j).any (missB n)=false)∧Below w.heap.size w wr) (fun iv _=>m-(intOf iv).toNat)
 case atStart=>exact⟨0,by omega,rfl,ι rfl,Below.refl _ _⟩
 case round =>
  obtain⟨j,hj,rfl,HA,hbr⟩:=hrel
  by_cases ha:j<m
  ·have ha1:(j:Int)<m:=by omega
   have hjl:j<ws.length:=by rw[HML.out];exact ha
   obtain⟨b1,o1,rfl,hc1,hmm1,hh1,hl1,HR1⟩:=Rd.chunk Wr.c HR.out HWC.out (by decide) ha
   have HRG:=ι (Rd.rangeLater (HR1 j hjl) hh1 hbr)
   have HSX:=ι (HS.out _ (List.getElem_mem hjl))
   have HAN:=ι (d2q (missB n) ws hjl HA.out)
   have HCM:=ι (cmissing bx ps n cs vw ws[j] wr (a0w HB.out hbr hbl) HSX.out hn)
   generalize ws[j]=x at *
   clear HR1 hl1
   cases hq:missB n x
   all_goals (rw[hq] at HCM HAN;clear hq)
   ·go_wp2_with (first|(refine a3o rfl (.tmp 14) rfl b1 (o1+j * 36) rfl x HSX.out HRG.out ?_)|(go_at_call 99;refine HCM.out.mono ?_;rintro e w2 ⟨rfl,hb2⟩))
    go_roundw
    case rel=>exact⟨j+1,by omega,by go_num,HAN,a0b hbr hb2⟩
    case measure=>simp[intOf];omega
   ·go_wp2_with (first|(refine a3o rfl (.tmp 14) rfl b1 (o1+j * 36) rfl x HSX.out HRG.out ?_)|(go_at_call 99;refine HCM.out.mono ?_;rintro e w2 ⟨rfl,hb2⟩))
    go_ret
    exact⟨⟨(j:Int),rfl,by rw[c1k _ _ _ HAN.out];simp⟩,a0b hbr hb2⟩
  ·obtain rfl:m=j:=by omega
   have HAE:Hid (ws.any (missB n)=false):=ι (by have h:=HA.out;rwa [List.take_of_length_le (by rw[HML.out];omega)] at h)
   go_wp2_with fail
   go_ret
   exact⟨⟨-1,rfl,by rw[HAE.out];rfl⟩,hbr⟩
theorem ccontains(bx:Nat)(ps:Option Addr)(n cs:Nat)(vw:Value)(p:Option Addr)(m c:Nat)(ws:List Wr)(w:World)(hb:w.heap[bx]? = some (.cells #[.slice ps n cs,vw] 67 (0,0)))(hs:∀x∈ws,Sec x.s)(hn:n≤1000)
  (h:Rd w 36 (.slice p m c) m (wrsC ws)) (hm:m≤1000) :
  Calls Tryz.prog 102 #[.slice p m c,missV bx] w (Rt w (.bool (ws.any (missB n)))):=by
 have HI:=ι (cindex bx ps n cs vw p m c ws w hb hs hn h hm)
 clear hb hs h
 unfold missV at *
 go_enter Tryz.func102,Tryz.ntmps102
 go_wp2_with (go_at_call 158;refine HI.out.mono ?_;rintro e w2 ⟨⟨r,rfl,hr⟩,hb2⟩;have HR:=ι hr;clear hr)
 go_ret
 exact⟨a0j HR.out,hb2⟩
theorem d0j{ops:Array Oper}{rest:List Oper}{o:Oper}{a:Act}{w:World}{Q:Exit→Act→World→Prop}(hgd:o.guard=none)(x y:Operand)(ho:o.op = .store 95 x y)(hd:o.dst=none)
  (B g i n c:Nat) (hx:a.eval x = .pointer (some ⟨g,i * 32,none⟩)) (s:List Int) (hy:a.eval y = .agg (u8s s).toArray) (hl:Sec s) (ss:List (List Int)) (hs:Secs ss) (hi:i<ss.length) (hg:Own w B 95 32 (.slice (some ⟨g,0,none⟩) n c) n (cellsOf ss))
  (h:∀w',Own w' B 95 32 (.slice (some ⟨g,0,none⟩) n c) n (cellsOf (ss.set i s))→Touch (· = g) w w'→wpList Tryz.prog ops Q rest a w'):wpList Tryz.prog ops Q (o::rest) a w :=
 wpList_plain hgd fun K hK=>by
  have hw:Region.wanted o (yielded ops a.tmps)=true:=by simp[Region.wanted,hgd]
  have:=a3f (Q:=Q) (F:=False) (K:=K) hw x y ho B g i n c hx s hy hl ss hs hi hg (fun w' h1 h2=>by rw[hd];exact hK _ _ (h w' h1 h2))
  rwa [if_pos hw] at this
def imgIn(w:World)(ps:Option Addr)(n cs:Nat)(pw:Option Addr)(m cw:Nat)(ss:List (List Int))(ws:List Wr):Prop :=
 Rd w 32 (.slice ps n cs) n (cellsOf ss)∧Secs ss∧ss.length=n∧n≤1000∧Rd w 36 (.slice pw m cw) m (wrsC ws)∧(∀x∈ws,Sec x.s)∧m≤1000
set_option maxRecDepth 100000 in
set_option maxHeartbeats 3200000 in
theorem cimage(c:Nat)(ps:Option Addr)(n cs:Nat)(pw:Option Addr)(m cw:Nat)(ss:List (List Int))(ws:List Wr)(w:World)(hc:c<18446744073709551616)(hi:imgIn w ps n cs pw m cw ss ws) :
  Calls Tryz.prog 34 #[stV ps n cs pw m cw,.int .u64 (c:Int)] w (ImgDone c ss ws n w):=by
 obtain⟨h,hss,hsl,hn,hw,hws,hm⟩:=hi
 have HR:=ι h
 have HW:=ι hw
 have HWC:=ι fun x hx=>Wr.c_len (hws x hx)
 have hml:ws.length=m:=Rd.count Wr.c hw (fun x hx=>Wr.c_len (hws x hx)) (by decide)
 have HML:=ι hml
 have HSS:=ι hss
 have HSL:=ι hsl
 have HS:=ι hws
 have HC:=ι hc
 have hm1:(m:Int)≤1000:=by omega
 have hn1:(n:Int)≤1000:=by omega
 have HAL:=ι fun w' (hb:Below w.heap.size w w')=>callowed c ps n cs pw m cw ws w' hc hws (hw.later hb) hm
 obtain⟨a,ha⟩:∃a,alB c (eps ws)=a:=⟨_,rfl⟩
 obtain⟨b,hb⟩:∃b,ws.any (missB n)=b:=⟨_,rfl⟩
 have HAA:=ι ha
 have HBB:=ι hb
 have HIO:Hid (imgOk c ws n=(a && !b)):=ι (by rw[imgOk,ha,hb])
 rw[ha] at HAL
 clear h hw hml hss hsl hws hc ha hb
 have HB1:Hid (Below w.heap.size w (w.alloc (.cells #[.slice ps n cs,.slice pw m cw] 67))):=ι (a0a (Below.refl _ _) _)
 have HROW:Hid (∀w2,Below (w.alloc (.cells #[.slice ps n cs,.slice pw m cw] 67)).heap.size (w.alloc (.cells #[.slice ps n cs,.slice pw m cw] 67)) w2→w2.heap[w.heap.size]? = some (.cells #[.slice ps n cs,.slice pw m cw] 67 (0,0))∧Below w.heap.size w w2):=ι (fun w2 hb2 =>
  ⟨a0w (heap_alloc_new _ _) hb2 (by rw[size_alloc];omega),(a0a (Below.refl _ w) _).trans (hb2.mono (by rw[size_alloc];omega))⟩)
 have HCT:=ι fun w2 (hrow:w2.heap[w.heap.size]? = some (.cells #[.slice ps n cs,.slice pw m cw] 67 (0,0))) (hb2:Below w.heap.size w w2)=>ccontains w.heap.size ps n cs (.slice pw m cw) pw m cw ws w2 hrow HS.out hn (HW.out.later hb2) hm
 rw[HBB.out] at HCT
 unfold missV at HCT
 unfold stV at *
 cases a with
 | false =>
  go_enter Tryz.func34,Tryz.ntmps34
  go_wp2_with (go_at_call 101;refine(HAL.out _ HB1.out).mono ?_;rintro e w2 ⟨rfl,hb2⟩)
  go_ret2
  exact⟨(HROW.out _ hb2).2,Or.inl ⟨HIO.out,rfl⟩⟩
 | true =>
  cases b with
  | true =>
   go_enter Tryz.func34,Tryz.ntmps34
   go_wp2_with (first|(go_at_call 101;refine(HAL.out _ HB1.out).mono ?_;rintro e w2 ⟨rfl,hb2⟩;have HRW:=ι (HROW.out w2 hb2);clear hb2;have cc1:=a0c HRW.out.1 1 _ rfl)|(go_at_call 102;refine(HCT.out _ HRW.out.1 HRW.out.2).mono ?_;rintro e w3 ⟨rfl,hb3⟩))
   go_ret2
   exact⟨a0b HRW.out.2 hb3,Or.inl ⟨HIO.out,rfl⟩⟩
  | false =>
   have HMS:Hid (∀x∈ws,missB n x=false):=ι (fun x hx=>by
    have:=HBB.out
    rw[List.any_eq_false] at this
    simpa using this x hx)
   have HCS:=ι fun w3 (hb3:Below w.heap.size w w3)=>a7e ps n cs (cellsOf ss) w3 (HR.out.later hb3) (a1q .u8 _) hn
   go_enter Tryz.func34,Tryz.ntmps34
   go_wp2_with (first|(go_at_call 101;refine(HAL.out _ HB1.out).mono ?_;rintro e w2 ⟨rfl,hb2⟩;have HRW:=ι (HROW.out w2 hb2);clear hb2;have cc1:=a0c HRW.out.1 1 _ rfl)|(go_at_call 102;refine(HCT.out _ HRW.out.1 HRW.out.2).mono ?_;rintro e w3 ⟨rfl,hb3⟩;have hbw3:=a0b HRW.out.2 hb3;have HRW3:=ι (a0w HRW.out.1 hb3 (Array.getElem?_eq_some_iff.1 HRW.out.1).1);have cd0:=a0c HRW3.out 0 _ rfl;clear hb3)|(go_at_call 57;refine(HCS.out _ hbw3).mono ?_;rintro e w4 ⟨p4,c4,rfl,ho4,hb4⟩;have HO4:=ι ho4;have hbw4:=a0b hbw3 hb4;have HRW4:=ι (a0w HRW3.out hb4 (Array.getElem?_eq_some_iff.1 HRW3.out).1);have ce1:=a0c HRW4.out 1 _ rfl;have HS34:=ι hbw3.size;clear ho4 hb4))
   have hbs34:=HS34.out
   have HO0:Hid (Own w4 w.heap.size 95 32 (.slice p4 n c4) n (cellsOf (imgUpto c ws ss 0))):=ι (own_base HO4.out hbs34)
   have hp4:∀g,p4=some ⟨g,0,none⟩→w.heap.size<g∧g<w4.heap.size:=fun g hg=>by
    subst hg
    have:=b2q HO4.out
    have:=(Array.getElem?_eq_some_iff.1 HRW3.out).1
    omega
   have HP4:=ι hp4
   clear HO4 hp4 HRW HRW3 hbw3 HS34 hbs34 cd0 cc1 HCT HAL HCS HROW HB1
   go_loopw [27] (fun iv wr=>∃(j:Nat),j≤m∧iv = .int .i64 (j:Int)∧Hid (Own wr w.heap.size 95 32 (.slice p4 n c4) n (cellsOf (imgUpto c ws ss j)))∧Below w.heap.size w wr) (fun iv _=>m-(intOf iv).toNat)
   case atStart=>exact⟨0,by omega,rfl,HO0,hbw4⟩
   case round =>
    clear HO0 hbw4
    obtain⟨j,hj,rfl,HO,hbr⟩:=hrel
    by_cases ha:j<m
    ·have ha1:(j:Int)<m:=by omega
     have hjl:j<ws.length:=by rw[HML.out];exact ha
     obtain⟨b1,o1,rfl,hc1,hmm1,hh1,hl1,HR1⟩:=Rd.chunk Wr.c HW.out HWC.out (by decide) ha
     have HRG:=ι (Rd.rangeLater (HR1 j hjl) hh1 hbr)
     have HSX:=ι (HS.out _ (List.getElem_mem hjl))
     have HIS:=ι (b8n c ws ss j hjl)
     have HIC:=ι (a6q c ws ss HSS.out HS.out j fun k hk _=>by rw[HSL.out];exact HMS.out _ (List.getElem_mem hk))
     have HIL:Hid ((imgUpto c ws ss j).length=n):=ι (by rw[a5x,HSL.out])
     have hmx:=HMS.out _ (List.getElem_mem hjl)
     rw[missB,Bool.not_eq_false',decide_eq_true_eq] at hmx
     generalize ws[j]=x at *
     obtain⟨kp,hkp⟩:=Int.eq_ofNat_of_zero_le hmx.1
     have hkn:kp<n:=by have:=hmx.2;omega
     have hkn1:(kp:Int)<n:=by omega
     have HKP:=ι hkp
     obtain⟨g,hg⟩:=a5r HO.out (by omega)
     subst hg
     have hgg:=HP4.out g rfl
     have hgl:=(b2q HO.out).2
     obtain⟨d,hd⟩:∃d,fate c (j:Int)=d:=⟨_,rfl⟩
     have HFT:=ι fun w'=>a6o c (j:Int) d w' HC.out hd
     have hst:imgStep c (imgUpto c ws ss j) j x=if d=1 then (imgUpto c ws ss j).set kp x.s else if d=2 then (imgUpto c ws ss j).set kp (tornOf ((imgUpto c ws ss j).getD kp []) x.s) else imgUpto c ws ss j:=by
      rw[imgStep,hd,hkp];rfl
     have HST:=ι hst
     clear HR1 hl1 hmx hkp hst hd
     by_cases h1:d=1
     ·have HST1:Hid (imgUpto c ws ss (j+1)=(imgUpto c ws ss j).set kp x.s):=ι (by rw[HIS.out,HST.out,if_pos h1])
      subst h1
      clear HST
      go_wp2_with (first|(refine a3o rfl (.tmp 30) rfl b1 (o1+j * 36) rfl x HSX.out HRG.out ?_)|(refine a6y rfl _ _ rfl rfl wr.heap.size x w0 rfl rfl HSX.out a0g (a9k wr) ?_;intro w5 hx5 hb5;have hb5r:=(a0a (Below.refl _ wr) _).trans hb5;have HO5:=ι (a0n HO.out hb5r);have hb5w:=a0b hbr hb5r;obtain⟨cx0,rx1,_⟩:=AtW.parts hx5 HSX.out;rw[HKP.out] at cx0;have HX1:=ι rx1;have HLT5:=ι (Array.getElem?_eq_some_iff.1 hx5).1;clear hb5 hb5r rx1 hx5)|(go_at_call 103;refine(HFT.out _).mono ?_;rintro e w6 ⟨rfl,rfl⟩)|(refine b6g rfl (.tmp 40) rfl wr.heap.size 1 rfl x.s HSX.out.1 HX1.out ?_)|(refine d0j rfl _ _ rfl rfl w.heap.size g kp n c4 rfl x.s rfl HSX.out _ HIC.out (by rw[HIL.out];exact hkn) HO5.out ?_;intro w7 ho7 ht7;have HO7:=ι ho7;have hb7:=hb5w.trans (ht7.below hb5w.size (fun k hk=>by rw[hk];omega));clear ho7 ht7))
      refine⟨⟨j+1,by omega,by go_num,ι (by rw[HST1.out];exact HO7.out),hb7⟩,by simp[intOf];omega⟩
     ·by_cases h2:d=2
      ·have HST1:Hid (imgUpto c ws ss (j+1)=(imgUpto c ws ss j).set kp (tornOf ((imgUpto c ws ss j).getD kp []) x.s)):=ι (by rw[HIS.out,HST.out,if_neg h1,if_pos h2])
       have hold:=b8r HIC.out (i:=kp) (by rw[HIL.out];exact hkn)
       obtain⟨old,hoe⟩:∃old,(imgUpto c ws ss j).getD kp []=old:=⟨_,rfl⟩
       rw[hoe] at HST1 hold
       have HOE:=ι hoe
       have HOLD:=ι hold
       subst h2
       clear HST h1 hoe hold
       go_wp2_with (first|(refine a3o rfl (.tmp 30) rfl b1 (o1+j * 36) rfl x HSX.out HRG.out ?_)|(refine a6y rfl _ _ rfl rfl wr.heap.size x w0 rfl rfl HSX.out a0g (a9k wr) ?_;intro w5 hx5 hb5;have hb5r:=(a0a (Below.refl _ wr) _).trans hb5;have HO5:=ι (a0n HO.out hb5r);have hb5w:=a0b hbr hb5r;obtain⟨cx0,rx1,_⟩:=AtW.parts hx5 HSX.out;rw[HKP.out] at cx0;have HX1:=ι rx1;have HLT5:=ι (Array.getElem?_eq_some_iff.1 hx5).1;clear hb5 hb5r rx1 hx5)|(go_at_call 103;refine(HFT.out _).mono ?_;rintro e w6 ⟨rfl,rfl⟩))
       have HOR:Hid (w5.rangeAt g (kp * 32) (u8s old)):=ι (by
        obtain⟨b,off,hbo,_,_,_,hl,hr⟩:=c2b HO5.out.rd HIC.out hkn
        cases hbo
        have:=hr kp (by rw[HIL.out];exact hkn)
        rw[Nat.zero_add] at this
        rw[← HOE.out,show (imgUpto c ws ss j).getD kp []=(imgUpto c ws ss j)[kp]'(by rw[HIL.out];exact hkn) by simp[List.getD,show kp<(imgUpto c ws ss j).length by rw[HIL.out];exact hkn]]
        exact this)
       have hg5:g<w5.drew.heap.size:=Nat.lt_of_lt_of_le hgl (by have:=HLT5.out;show wr.heap.size≤w5.heap.size;omega)
       have hx5:wr.heap.size<w5.drew.heap.size:=HLT5.out
       have CX0:=ι cx0
       refine a4q (S:=ext w5.drew) 12 (by kernel_rfl) (Below.refl _ _) (fun hH0 => ?_)
       refine tl 0 rfl ?_
       refine tl 1 rfl ?_
       refine tlv 2 rfl (a0l (by rfl) 3 _ a3m rfl _ rfl wr.heap.size 0 rfl (.int .i64 (kp:Int)) (fun w' hw=>(Below.cell hw (p:=⟨wr.heap.size,0,none⟩) hx5).trans CX0.out)) ?_
       refine tl 3 rfl ?_
       refine tl 4 rfl ?_
       refine tlv 5 rfl (a0l (by rfl) 3 _ a3m rfl _ rfl wr.heap.size 0 rfl (.int .i64 (kp:Int)) (fun w' hw=>(Below.cell hw (p:=⟨wr.heap.size,0,none⟩) hx5).trans CX0.out)) ?_
       refine tl 6 rfl ?_
       refine tlv 7 rfl (a5e (by rfl) _ rfl g (kp * 32) rfl old HOLD.out.1 (fun w' hw=>Rd.rangeLater (w:=w5.drew) HOR.out hg5 hw)) ?_
       refine tl 8 rfl ?_
       refine tlv 9 rfl (a5e (by rfl) _ rfl wr.heap.size 1 rfl x.s HSX.out.1 (fun w' hw=>Rd.rangeLater (w:=w5.drew) HX1.out hx5 hw)) ?_
       refine a0v (rs:=[10]) (by kernel_rfl) (by simp) ?_
       refine AllReadyL.cons (o:={ dst:=some 55,op:=Op.call { callee:=Callee.value (Operand.func 104),args := #[Operand.tmp 52,Operand.tmp 54],argTypes := #[95,95] },type:=95,pos := "crash.go:132", after := #[{ on:=7,ground:=Ground.data },{ on:=9,ground:=Ground.data }],guard:=none }) rfl (fun K hK => ?_) AllReadyL.nil
       go_simp
       refine(torn_is old x.s _ HOLD.out HSX.out).mono ?_
       rintro e v10 ⟨rfl,hb10⟩
       have HB10:=ι hb10
       clear hb10
       dsimp only
       refine hK.out _ _ (Or.inr HB10.out) (fun hHeld => ?_)
       clear hK K
       try simp only[Act.put,List.setIfInBounds_toArray,List.set_cons_zero,List.set_cons_succ]
       refine tl 11 rfl ?_
       refine a0v (rs:=[12]) (by kernel_rfl) (by simp) ?_
       refine AllReadyL.cons (o:={ dst:=none,op:=Op.store 95 (Operand.tmp 56) (Operand.tmp 55),type:=0,pos := "crash.go:132", after := #[{ on:=11,ground:=Ground.data },{ on:=10,ground:=Ground.data },{ on:=10,ground:=Ground.chain },{ on:=0,ground:=Ground.phase },{ on:=1,ground:=Ground.phase },{ on:=2,ground:=Ground.phase },{ on:=3,ground:=Ground.phase },{ on:=4,ground:=Ground.phase },{ on:=5,ground:=Ground.phase },{ on:=6,ground:=Ground.phase },{ on:=7,ground:=Ground.phase },{ on:=8,ground:=Ground.phase },{ on:=9,ground:=Ground.phase },{ on:=10,ground:=Ground.phase }],guard:=none }) rfl (fun K hK => ?_) AllReadyL.nil
       refine a3f (by rfl) _ _ (by rfl) w.heap.size g kp n c4 (by rfl) (tornOf old x.s) (by rfl) (b6v HOLD.out HSX.out) _ HIC.out (by rw[HIL.out];exact hkn) (a0n (w:=w5.drew) HO5.out HB10.out) ?_
       intro w12 ho12 ht12
       have HO12:=ι ho12
       have HT12:=ι ht12
       clear ho12 ht12
       dsimp only
       refine hK.out _ _ (Or.inl rfl) (fun hHeld => ?_)
       clear hK K
       try simp only[Act.put,List.setIfInBounds_toArray,List.set_cons_zero,List.set_cons_succ]
       refine a6a (by kernel_rfl) ?_ _
       clear hHeld hH0
       have hb12:Below w.heap.size w w12:=(hb5w.drew.trans (HB10.out.mono hb5w.size)).trans (HT12.out.below (Nat.le_trans hb5w.size HB10.out.size) (fun k hk=>by rw[hk];omega))
       go_wp2_with fail
       refine⟨⟨j+1,by omega,by go_num,ι (by rw[HST1.out];exact HO12.out),hb12⟩,by simp[intOf];omega⟩
      ·have HST1:Hid (imgUpto c ws ss (j+1)=imgUpto c ws ss j):=ι (by rw[HIS.out,HST.out,if_neg h1,if_neg h2])
       have hd1:(d == 1)=false:=by simpa using h1
       have hd2:(d == 2)=false:=by simpa using h2
       clear HST h1 h2
       go_wp2_with (first|(refine a3o rfl (.tmp 30) rfl b1 (o1+j * 36) rfl x HSX.out HRG.out ?_)|(refine a6y rfl _ _ rfl rfl wr.heap.size x w0 rfl rfl HSX.out a0g (a9k wr) ?_;intro w5 hx5 hb5;have hb5r:=(a0a (Below.refl _ wr) _).trans hb5;have HO5:=ι (a0n HO.out hb5r);have hb5w:=a0b hbr hb5r;obtain⟨cx0,rx1,_⟩:=AtW.parts hx5 HSX.out;rw[HKP.out] at cx0;have HX1:=ι rx1;have HLT5:=ι (Array.getElem?_eq_some_iff.1 hx5).1;clear hb5 hb5r rx1 hx5)|(go_at_call 103;refine(HFT.out _).mono ?_;rintro e w6 ⟨rfl,rfl⟩))
       refine⟨⟨j+1,by omega,by go_num,ι (by rw[HST1.out];exact HO5.out),hb5w⟩,by simp[intOf];omega⟩
    ·obtain rfl:m=j:=by omega
     go_wp2_with fail
     go_ret2
     refine⟨hbr,Or.inr ⟨HIO.out,p4,c4,rfl,?_⟩⟩
     rw[HML.out]
     exact HO.out
end dsk
namespace dsk
set_option maxRecDepth 100000
open Go.ChangeShapes Go.WideShapes Go.ChangeAt Go.RowKit
open rows
open sec
theorem d1b:Tryz.prog.underlying 67=some (.struct (Tryz.prog.fieldsOf 67)):=by kernel_rfl
theorem b5v:(Tryz.prog.info? 67).map (·.size)=some 2:=by kernel_rfl
theorem c6v{w:World}{b:Nat}{v1 v2:Value}{t:TypeId}(h:w.heap[b]? = some (.cells #[v1,v2] t (0,0))):w.rangeAt b 0 [v1,v2]:=fun i u hi=>by
 rw[Nat.zero_add]
 exact a0c h i u (by simpa using hi)
theorem a9d{fn:Func}{p q:Tmp}{R:Ending→World→Prop}{a:Act}{w:World}(h:fn.results = #[.cell p 67,.tmp q])(g:Nat)(v1 v2 v:Value)(hp:a.tmps.getD p undef = .pointer (some ⟨g,0,none⟩))(hq:a.tmps.getD q undef=v)(hg:w.heap[g]? = some (.cells #[v1,v2] 67 (0,0)))
  (hd:a.defers=[]) (hR:R (.returned (.tuple #[.agg #[v1,v2],v])) w):bodyPost Tryz.prog fn R .ret a w:=by
 refine bodyPost_ret (v := .tuple #[.agg #[v1,v2],v]) ?_ hd hR
 have hp':a.tmps[p]?.getD undef = .pointer (some ⟨g,0,none⟩):=by simpa using hp
 have hq':a.tmps[q]?.getD undef=v:=by simpa using hq
 have hl:=run_loadVar_row (P:=Tryz.prog) w g _ 67 _ _ _ hg d1b rfl (by rw[b5v];rfl)
 simp[results,h,hp',hq',asAddr,hl]
theorem d3n{ops:Array Oper}{rest:List Oper}{o:Oper}{a:Act}{w:World}{Q:Exit→Act→World→Prop}(hgd:o.guard=none)(x:Operand)(ho:o.op = .load 67 x)
  (b:Nat) (hx:a.eval x = .pointer (some ⟨b,0,none⟩)) (v1 v2:Value) (hg:w.heap[b]? = some (.cells #[v1,v2] 67 (0,0)))
  (h:wpList Tryz.prog ops Q rest (a.put o.dst (.agg #[v1,v2])) w):wpList Tryz.prog ops Q (o::rest) a w :=
 wpList_load_mid hgd 67 x ho b 0 hx [v1,v2] _ (c6v hg) d1b rfl (by rw[b5v];rfl) h
theorem a8n{ops:Array Oper}{rest:List Oper}{o:Oper}{a:Act}{w:World}{Q:Exit→Act→World→Prop}(hgd:o.guard=none)(x y:Operand)(ho:o.op = .store 67 x y)(hd:o.dst=none)
  (g:Nat) (v1 v2 u1 u2:Value) (hx:a.eval x = .pointer (some ⟨g,0,none⟩)) (hy:a.eval y = .agg #[v1,v2]) (h1:v1.oneCell'=true) (h2:v2.oneCell'=true) (hg:w.heap[g]? = some (.cells #[u1,u2] 67 (0,0)))
  (h:∀w',w'.heap[g]? = some (.cells #[v1,v2] 67 (0,0))→Touch (· = g) w w'→wpList Tryz.prog ops Q rest a w'):wpList Tryz.prog ops Q (o::rest) a w:=by
 refine wpList_store_row hgd 67 x y ho g #[v1,v2] hx hy 67 _ hg (by rw[b5v];rfl) rfl (by simp[h1,h2]) ?_
 rw[hd]
 exact h _ (setRow_heap w g _ _ _ _ hg) ⟨rfl,rfl,rfl,by simp[World.setRow],fun k hk hn=>setRow_other w g k _ hn⟩
end dsk
end Go.Proofs.YtiaapfijbidgnaaGreatDoor
