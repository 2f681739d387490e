/- What CheckStays wants, part 18. -/
import Derived.Test.YtpnahagiojelbaaGreatDoorCheckStaysA
import Derived.Test.YtpnahagiojelbaaGreatDoorCheckStaysB
import Derived.Test.YtpnahagiojelbaaGreatDoorCheckStaysC
import Derived.Test.YtpnahagiojelbaaGreatDoorCheckStaysE
import Derived.Test.YtpnahagiojelbaaGreatDoorCheckStaysO
import Derived.Test.YtpnahagiojelbaaGreatDoorCheckStaysP
import Derived.Test.YtpnahagiojelbaaGreatDoorCheckStaysQ
import Derived.Lib.BufferWrite
import Derived.Deep.CutRange
set_option linter.unusedVariables false
set_option linter.unusedSimpArgs false
namespace Go.Proofs.YtpnahagiojelbaaGreatDoor
namespace ly
set_option maxRecDepth 100000
open Go.ChangeShapes Go.WideShapes Go.ChangeAt Go.RowKit
open rows
open sec
open dsk (a0c a0d)
theorem a9u{w:World}(ty:TypeId)(g off dLen dCap:Nat)(s:ByteArray)(old:List Int)(hg:At w g old)(hle:s.size≤dLen)(hfit:off+s.size≤old.length) :
  (Builtin.copy_ #[30,9] ty #[.slice (some ⟨g,off,none⟩) dLen dCap,.string s]).run Tryz.prog w = .ok (goInt s.size) (w.setRow g (u8s (splice old off (bys s))).toArray):=by
 have h:=Lib.run_copy_row_string (P:=Tryz.prog) w 30 9 ty 5 g off dLen dCap s (u8s old).toArray 65 Tryz.underlying30 (by kernel_rfl) hg hle (by simpa [u8s] using hfit)
 have e:(u8s old).toArray.toList.take off++Lib.byteCells s.data.toList++(u8s old).toArray.toList.drop (off+s.size)=u8s (splice old off (bys s)):=by
  have e1:Lib.byteCells s.data.toList=u8s (bys s):=by simp[Lib.byteCells,u8s,bys]
  have e2:s.size=(u8s (bys s)).length:=by simp[u8s,a2w]
  rw[e1,e2,← a9g,List.append_assoc];rfl
 rw[e] at h
 exact h
theorem a7s{ops:Array Oper}{o:Oper}{a:Act}{w:World}{K:Act→World→Prop}{Q:Exit→Act→World→Prop}{E:Prop}(hgd:o.guard=none)(d s:Operand)
  (ho:o.op = .call { callee := .builtin .copy,args := #[d,s],argTypes := #[30,9] }) (g off dLen dCap:Nat)
  (hd:a.eval d = .slice (some ⟨g,off,none⟩) dLen dCap) (t:ByteArray) (hs:a.eval s = .string t) (old:List Int) (hg:At w g old) (hle:t.size≤dLen) (hfit:off+t.size≤old.length)
  (h:∀w',At w' g (splice old off (bys t))→Below g w w'→(∀k,k≠g→w'.heap[k]? = w.heap[k]?)→K (a.put o.dst (goInt t.size)) w') :
  if Region.wanted o (yielded ops a.tmps)=true then Oper.wp Tryz.prog o a w K Q else E:=by
 have hw:Region.wanted o (yielded ops a.tmps)=true:=by simp[Region.wanted,hgd]
 rw[if_pos hw]
 have hrun:=a9u o.type g off dLen dCap t old hg hle hfit
 unfold Oper.wp
 simp[execOp,ho,resolve,invoke,builtin,hd,hs,hrun,Result.andThen]
 exact h _ (setRow_heap w g _ _ _ _ hg) ((Below.refl g w).trans ⟨rfl,rfl,rfl,by simp[World.setRow],fun k hk=>setRow_other w g k _ (by omega)⟩) (fun k hk=>setRow_other w g k _ hk)
def AtE(w:World)(g:Nat)(x:Ent):Prop:=w.heap[g]? = some (.cells #[.bool x.used,.int .i64 x.parent,.string x.name,.int .i64 x.target] 170)
theorem AtE.later{w w':World}{g:Nat}{x:Ent}(h:AtE w g x)(k:Below w.heap.size w w'):AtE w' g x:=(k.block g (Array.getElem?_eq_some_iff.1 h).1).trans h
theorem AtE.alloc{w:World}{g:Nat}{x:Ent}(h:AtE w g x)(o:Obj):AtE (w.alloc o) g x:=h.later (a0a (Below.refl _ _) o)
theorem a2t(w:World)(x:Ent):AtE (w.alloc (.cells #[.bool x.used,.int .i64 x.parent,.string x.name,.int .i64 x.target] 170)) w.heap.size x:=heap_alloc_new _ _
theorem AtE.cell0{w:World}{g:Nat}{x:Ent}(h:AtE w g x):w.cell? ⟨g,0,none⟩=some (.bool x.used):=a0c h 0 _ rfl
theorem AtE.cell1{w:World}{g:Nat}{x:Ent}(h:AtE w g x):w.cell? ⟨g,1,none⟩=some (.int .i64 x.parent):=a0c h 1 _ rfl
theorem AtE.cell2{w:World}{g:Nat}{x:Ent}(h:AtE w g x):w.cell? ⟨g,2,none⟩=some (.string x.name):=a0c h 2 _ rfl
theorem AtE.cell3{w:World}{g:Nat}{x:Ent}(h:AtE w g x):w.cell? ⟨g,3,none⟩=some (.int .i64 x.target):=a0c h 3 _ rfl
theorem b4x:Tryz.prog.underlying 170=some (.struct (Tryz.prog.fieldsOf 170)):=by kernel_rfl
theorem a6h:(Tryz.prog.info? 170).map (·.size)=some 4:=by kernel_rfl
theorem a3n{ops:Array Oper}{rest:List Oper}{o:Oper}{a:Act}{w:World}{Q:Exit→Act→World→Prop}(hgd:o.guard=none)(p:Operand)(ho:o.op = .load 170 p)
  (g:Nat) (hp:a.eval p = .pointer (some ⟨g,0,none⟩)) (x:Ent) (hg:AtE w g x)
  (h:wpList Tryz.prog ops Q rest (a.put o.dst (aggE x)) w):wpList Tryz.prog ops Q (o::rest) a w :=
 wpList_load_row hgd 170 p ho g hp 170 _ _ _ hg b4x rfl (by rw[a6h];rfl) h
structure BoxesE (w W:World) (x:Ent) (s:List Int):Prop where
 ent:AtE W w.heap.size x
 out:At W (w.heap.size+1) s
 below:Below w.heap.size w W
theorem boxesE(w:World)(x:Ent):∃W,(w.alloc (.cells #[.bool x.used,.int .i64 x.parent,.string x.name,.int .i64 x.target] 170)).alloc (.cells (u8s zero32).toArray 65)=W∧BoxesE w W x zero32 :=
 ⟨_,rfl,(a2t w x).alloc _,by have:=at_new (w.alloc (.cells #[.bool x.used,.int .i64 x.parent,.string x.name,.int .i64 x.target] 170)) zero32;simpa using this,a0a (a0a (Below.refl _ _) _) _⟩
theorem BoxesE.later{w W W':World}{x:Ent}{s:List Int}(h:BoxesE w W x s)(hb:Below W.heap.size W W'):BoxesE w W' x s:=⟨h.ent.later hb,h.out.later hb,a0b h.below hb⟩
set_option maxRecDepth 100000 in
set_option maxHeartbeats 1600000 in
theorem d3i(x:Ent)(hx:x.ok)(w:World)(hr:rightE x=false) :
  Calls Tryz.prog 169 #[aggE x] w (Rt w (.tuple #[agg zero32,.bool false])):=by
 obtain⟨W,hW,HB'⟩:=boxesE w x
 have HB:=ι HB'
 have HX:=ι hx
 have HR:=ι fun w=>b3p x hx w
 rw[hr] at HR
 clear HB' hx
 go_enter Tryz.func169,Tryz.ntmps169
 go_upto_region 1 with fail
 rw[a1k,hW]
 clear hW
 go_wp2_with (first|(refine a3n rfl _ rfl w.heap.size rfl x HB.out.ent ?_)|(go_at_call 204;refine(HR.out _).mono ?_;rintro e w2 ⟨rfl,hb2⟩;have HB2:=ι (HB.out.later hb2);clear hb2)|(refine a0k rfl _ _ rfl rfl (w.heap.size+1) zero32 zero32 rfl (congrArg Value.agg a1k) (by decide) (by decide) HB2.out.out ?_;intro w3 hA hB3 _;have A3:=ι hA;clear hA))
 refine a3b rfl (w.heap.size+1) _ _ rfl rfl (by decide) A3.out rfl ⟨rfl,?_⟩
 exact HB2.out.below.trans (hB3.mono (by omega))
set_option maxRecDepth 100000 in
set_option maxHeartbeats 3200000 in
theorem c8d(x:Ent)(hx:x.ok)(w:World)(hr:rightE x=true) :
  Calls Tryz.prog 169 #[aggE x] w (Rt w (.tuple #[agg (entSec x),.bool true])):=by
 obtain⟨W,hW,HB'⟩:=boxesE w x
 have HB:=ι HB'
 have HR:=ι fun w=>b3p x hx w
 have hn8:=(a7g hr).1
 obtain⟨p0,p1,t0,t1⟩:=b1u hr
 have HSP:=ι (b9b x (by omega))
 have HSL:=ι (b4b hr).1
 have n8:(x.name.size:Int)≤8:=by omega
 rw[hr] at HR
 clear HB' hx hr
 go_enter Tryz.func169,Tryz.ntmps169
 go_upto_region 1 with fail
 rw[a1k,hW]
 clear hW
 go_upto_region 3 with(first|(refine a3n rfl _ rfl w.heap.size rfl x HB.out.ent ?_)|(go_at_call 204;refine(HR.out _).mono ?_;rintro e w2 ⟨rfl,hb2⟩;have HB2:=ι (HB.out.later hb2);clear hb2))
 have hc1:=HB2.out.ent.cell1
 have hc2:=HB2.out.ent.cell2
 have hc3:=HB2.out.ent.cell3
 go_upto_region 4 with(first|(refine a0k rfl _ _ rfl rfl w2.heap.size (ent1 x 0) zero32 rfl rfl (b0b x 0) (by decide) (a1n w2) ?_;intro w3 hA hB3 hO3;have A3:=ι hA;clear hA hO3))
 have HB3:=ι (HB2.out.later ((a0a (Below.refl _ _) _).trans hB3))
 have hg:w.heap.size+1<w2.heap.size:=(Array.getElem?_eq_some_iff.1 HB2.out.out).1
 obtain⟨g,hgg⟩:∃g,w2.heap.size=g:=⟨_,rfl⟩
 rw[hgg] at hg A3
 rw[hgg]
 clear hB3 HB hc1 hc2 hc3 hgg HB2
 have hc0:=HB3.out.ent.cell0
 cases hu:x.used with
 | false =>
  rw[hu] at hc0 HSP
  rw[if_neg (by decide)] at HSP
  go_upto_region 6 with fail
  obtain⟨w4,hw4⟩:∃w4,w3=w4:=⟨_,rfl⟩
  rw[hw4]
  rw[hw4] at A3 HB3
  have A4:=A3
  have HB4:=HB3
  clear hw4 hc0 A3 HB3
  have hc2:=HB4.out.ent.cell2
  go_region_law (refine a7s rfl _ _ rfl g 16 16 16 rfl x.name rfl (ent1 x 0) A4.out (by omega) (by rw[b0b];omega) ?_;intro w5 hA hB5 hO5;have A5:=ι hA;have HB5:Hid (BoxesE w w5 x zero32):=ι ⟨(hO5 _ (by omega)).trans HB4.out.ent,(hO5 _ (by omega)).trans HB4.out.out,HB4.out.below.drew.trans (hB5.mono (by omega))⟩;clear hA hO5 hB5)
  rw[HSP.out] at A5
  go_wp2_with (first|(refine a1v rfl _ rfl g rfl _ HSL.out A5.out ?_)|(refine a0k rfl _ _ rfl rfl (w.heap.size+1) _ zero32 rfl rfl HSL.out (by decide) HB5.out.out ?_;intro w6 hA hB6 _;have A6:=ι hA;clear hA))
  refine a3b rfl (w.heap.size+1) _ _ rfl rfl HSL.out A6.out rfl ⟨rfl,?_⟩
  exact HB5.out.below.trans (hB6.mono (by omega))
 | true =>
  rw[hu] at hc0 HSP
  rw[if_pos rfl] at HSP
  have cs:=A3.out.cell (i:=0) (by rw[b0b];omega)
  have cf:w3.frozen? ⟨g,0,none⟩=false:=a0d A3.out 0
  go_upto_region 6 with fail
  have A4:Hid (At (w3.setCell ⟨g,0,none⟩ (.int .u8 1)) g (ent1 x 1)):=ι (b3i A3.out 1)
  have HB4:Hid (BoxesE w (w3.setCell ⟨g,0,none⟩ (.int .u8 1)) x zero32):=ι ⟨(Below.heap_setCell _ _ _ _ (by simp;omega)).trans HB3.out.ent,a3h HB3.out.out (by omega) _,HB3.out.below.setCell (p:=⟨g,0,none⟩) (by simp;omega) _⟩
  obtain⟨w4,hw4⟩:∃w4,w3.setCell ⟨g,0,none⟩ (.int .u8 1)=w4:=⟨_,rfl⟩
  rw[hw4]
  rw[hw4] at A4 HB4
  clear hw4 hc0 A3 HB3 cs cf
  have hc2:=HB4.out.ent.cell2
  go_region_law (refine a7s rfl _ _ rfl g 16 16 16 rfl x.name rfl (ent1 x 1) A4.out (by omega) (by rw[b0b];omega) ?_;intro w5 hA hB5 hO5;have A5:=ι hA;have HB5:Hid (BoxesE w w5 x zero32):=ι ⟨(hO5 _ (by omega)).trans HB4.out.ent,(hO5 _ (by omega)).trans HB4.out.out,HB4.out.below.drew.trans (hB5.mono (by omega))⟩;clear hA hO5 hB5)
  rw[HSP.out] at A5
  go_wp2_with (first|(refine a1v rfl _ rfl g rfl _ HSL.out A5.out ?_)|(refine a0k rfl _ _ rfl rfl (w.heap.size+1) _ zero32 rfl rfl HSL.out (by decide) HB5.out.out ?_;intro w6 hA hB6 _;have A6:=ι hA;clear hA))
  refine a3b rfl (w.heap.size+1) _ _ rfl rfl HSL.out A6.out rfl ⟨rfl,?_⟩
  exact HB5.out.below.trans (hB6.mono (by omega))
def entV(x:Ent):List Int:=if rightE x then entSec x else zero32
theorem a1i(x:Ent):Sec (entV x):=by
 unfold entV
 split
 ·exact b4b ‹_›
 ·exact a0i
theorem b1n(x:Ent)(hx:x.ok)(w:World) :
  Calls Tryz.prog 169 #[aggE x] w (Rt w (.tuple #[agg (entV x),.bool (rightE x)])):=by
 cases hr:rightE x with
 | true=>rw[entV,if_pos hr];exact c8d x hx w hr
 | false=>rw[entV,if_neg (by simp[hr])];exact d3i x hx w hr
end ly
namespace ly
set_option maxRecDepth 100000
open Go.ChangeShapes Go.WideShapes Go.ChangeAt Go.RowKit
open rows
open sec
open dsk (a0c a0d a0e a1h c9x b7w c2a a8h b8f b0y a3l)
def superSec:List Int:=[70,76,79,84]++List.replicate 28 0
def rootIno:Ino:=⟨2,0,[0,0,0,0]⟩
def rootSec:List Int:=2::List.replicate 31 0
theorem superSec_is:Sec superSec:=⟨by decide,by decide⟩
theorem rootSec_is:Sec rootSec:=⟨by decide,by decide⟩
theorem c3v:rootIno.ok:=⟨rfl,a0f (by simp[rootIno]),a0f (by simp[rootIno]),by intro z hz;simp[rootIno] at hz;subst hz;exact a0f (by omega)⟩
theorem a7r:rightI rootIno=true:=by decide
theorem b8x:inoV rootIno=rootSec:=by rw[inoV,if_pos a7r];decide
theorem d1h{ops:Array Oper}{rest:List Oper}{o:Oper}{a:Act}{w:World}{Q:Exit→Act→World→Prop}(hgd:o.guard=none)(d s:Operand)
  (ho:o.op = .call { callee := .builtin .copy,args := #[d,s],argTypes := #[30,9] }) (g off dLen dCap:Nat)
  (hd:a.eval d = .slice (some ⟨g,off,none⟩) dLen dCap) (t:ByteArray) (hs:a.eval s = .string t) (old:List Int) (hg:At w g old) (hle:t.size≤dLen) (hfit:off+t.size≤old.length)
  (h:∀w',At w' g (splice old off (bys t))→Below g w w'→(∀k,k≠g→w'.heap[k]? = w.heap[k]?)→wpList Tryz.prog ops Q rest (a.put o.dst (goInt t.size)) w'):wpList Tryz.prog ops Q (o::rest) a w:=by
 refine wpList_plain hgd fun K hK => ?_
 have hrun:=a9u o.type g off dLen dCap t old hg hle hfit
 unfold Oper.wp
 simp[execOp,ho,resolve,invoke,builtin,hd,hs,hrun,Result.andThen]
 exact hK _ _ (h _ (setRow_heap w g _ _ _ _ hg) ((Below.refl g w).trans ⟨rfl,rfl,rfl,by simp[World.setRow],fun k hk=>setRow_other w g k _ (by omega)⟩) (fun k hk=>setRow_other w g k _ hk))
theorem d0w{w:World}{ops:Array Oper}{rest:List Oper}{o:Oper}{a:Act}{Q:Exit→Act→World→Prop}(hgd:o.guard=none)(x y:Operand)(ho:o.op = .store 65 x y)(hd:o.dst=none)
  (g i:Nat) (hx:a.eval x = .pointer (some ⟨g,i * 32,none⟩)) (s:List Int) (hy:a.eval y = .agg (u8s s).toArray) (hl:Sec s) (ss:List (List Int)) (hs:Secs ss) (hi:i<ss.length) (hg:dsk.Rows w g ss)
  (h:∀w',dsk.Rows w' g (ss.set i s)→Below g w w'→wpList Tryz.prog ops Q rest a w'):wpList Tryz.prog ops Q (o::rest) a w:=by
 refine wpList_plain hgd fun K hK => ?_
 have hrun:=a8h hg hs hi hl
 unfold Oper.wp execOp
 simp only[ho,hx,hy,Instr.storeAt,Instr.sureAddr,Sem.run_bind,Sem.run_pure,Result.andThen_ok,hrun]
 exact hK (a.put o.dst undef) _ (by rw[hd];exact h _ (c2a hg) ((Below.refl g w).trans ⟨rfl,rfl,rfl,by simp[World.setRow],fun k hk=>setRow_other w g k _ (by omega)⟩))
theorem c6e(w:World):∃W,(w.alloc (.cells (u8s zero32).toArray 65)).alloc (.cells (u8s zero32).toArray 65)=W∧At W w.heap.size zero32∧At W (w.heap.size+1) zero32∧Below w.heap.size w W :=
 ⟨_,rfl,(at_new w zero32).alloc _,by have:=at_new (w.alloc (.cells (u8s zero32).toArray 65)) zero32;simpa using this,a0a (a0a (Below.refl _ _) _) _⟩
set_option maxRecDepth 100000 in
theorem c7g(w:World):Calls Tryz.prog 115 #[] w (Rt w (agg superSec)):=by
 obtain⟨W,hW,h1,h2,hb⟩:=c6e w
 have A1:=ι h1
 have A2:=ι h2
 have hsp:Hid (splice zero32 0 (bys { data := #[70,76,79,84] })=superSec):=ι (by decide)
 clear h1 h2
 go_enter Tryz.func115,Tryz.ntmps115
 go_upto_region 2 with fail
 rw[a1k,hW]
 clear hW
 go_wp2_with (first|(refine d1h rfl _ _ rfl (w.heap.size+1) 0 32 32 rfl { data := #[70,76,79,84] } rfl zero32 A2.out (by decide) (by decide) ?_;intro w3 hA hB3 hO3;have A3:=ι hA;have A13:Hid (At w3 w.heap.size zero32):=ι ((hO3 _ (by omega)).trans A1.out);rw[hsp.out] at A3;clear hA hO3)|(refine a1v rfl _ rfl (w.heap.size+1) rfl superSec superSec_is.1 A3.out ?_)|(refine a0k rfl _ _ rfl rfl w.heap.size superSec zero32 rfl rfl superSec_is.1 (by decide) A13.out ?_;intro w4 hA hB4 _;have A4:=ι hA;clear hA))
 refine a5k rfl w.heap.size _ rfl superSec_is.1 A4.out rfl ⟨rfl,?_⟩
 exact(hb.trans (hB3.mono (by omega))).trans hB4
set_option maxRecDepth 100000 in
theorem c4b(w:World):Calls Tryz.prog 32 #[] w (Rt w (agg superSec)):=by
 have A1:=ι (a1n w)
 go_enter Tryz.func32,Tryz.ntmps32
 go_upto_region 1 with fail
 go_wp2_with (first|(refine a0k rfl _ _ rfl rfl w.heap.size superSec zero32 rfl rfl superSec_is.1 (by decide) A1.out ?_;intro w4 hA hB4 _;have A4:=ι hA;clear hA))
 refine a5k rfl w.heap.size _ rfl superSec_is.1 A4.out rfl ⟨rfl,?_⟩
 exact(a0a (Below.refl _ _) _).trans hB4
set_option maxRecDepth 100000 in
theorem d4o(w:World):Calls Tryz.prog 116 #[] w (Rt w (agg rootSec)):=by
 have A1:=ι (a1n w)
 have HI:=ι fun w=>b0z rootIno c3v w
 rw[b8x,a7r] at HI
 go_enter Tryz.func116,Tryz.ntmps116
 go_upto_region 1 with fail
 rw[a1k]
 have A1':Hid (At (w.alloc (.cells (u8s zero32).toArray 65)) w.heap.size zero32):=ι (at_new w zero32)
 have HB:Hid (Below w.heap.size w (w.alloc (.cells (u8s zero32).toArray 65))):=ι (a0a (Below.refl _ _) _)
 generalize w.alloc (.cells (u8s zero32).toArray 65)=U at *
 clear A1
 go_wp2_with (first|(go_at_call 165;refine(HI.out _).mono ?_;rintro e w2 ⟨rfl,hb2⟩;have HB2:=ι (a0b HB.out hb2);have A12:=ι (A1'.out.later hb2);clear hb2)|(refine a0k rfl _ _ rfl rfl w2.heap.size rootSec zero32 rfl rfl rootSec_is.1 (by decide) (a1n w2) ?_;intro w3 hA hB3 hO3;have A3:=ι hA;have HB3:=ι ((a0a HB2.out _).trans (hB3.mono HB2.out.size));have A13:=ι (A12.out.later ((a0a (Below.refl _ _) _).trans hB3));clear hA hB3 hO3)|(refine a1v rfl _ rfl w2.heap.size rfl rootSec rootSec_is.1 A3.out ?_)|(refine a0k rfl _ _ rfl rfl w.heap.size rootSec zero32 rfl rfl rootSec_is.1 (by decide) A13.out ?_;intro w4 hA hB4 _;have A4:=ι hA;clear hA))
 refine a5k rfl w.heap.size _ rfl rootSec_is.1 A4.out rfl ⟨rfl,?_⟩
 exact HB3.out.trans hB4
def emptyImg:List (List Int):=((List.replicate 65 zero32).set 0 superSec).set 1 rootSec
theorem a5c:Secs emptyImg:=a3l (a3l (b0y 65) superSec_is 0) rootSec_is 1
theorem b6r:emptyImg.length=65:=by simp[emptyImg]
theorem img_set:((cellsOf ((List.replicate 65 zero32).set 0 superSec)).toArray.setIfInBounds 32 (.int .u8 2))=(cellsOf emptyImg).toArray:=by
 rw[List.setIfInBounds_toArray]
 have h:∀(a b:List Int),a=b→u8s a=u8s b:=fun a b h=>by rw[h]
 have e:(cellsOf ((List.replicate 65 zero32).set 0 superSec)).set 32 (.int .u8 2)=u8s ((((List.replicate 65 zero32).set 0 superSec).flatten).set 32 2):=by
  rw[cellsOf,u8s,u8s,List.map_set]
 rw[e,cellsOf]
 exact congrArg List.toArray (h _ _ (by kernel_rfl))
theorem d4h:(cellsOf ((List.replicate 65 zero32).set 0 superSec)).toArray[32]? = some (.int .u8 0):=by kernel_rfl
set_option maxRecDepth 100000 in
theorem b3w(w:World):Calls Tryz.prog 8 #[] w fun e w'=>∃p c,e = .returned (.slice p 65 c)∧Rd w' 32 (.slice p 65 c) 65 (cellsOf emptyImg)∧Below w.heap.size w w':=by
 obtain⟨i0,hi,hz0,hz1,hz2⟩:=info_parts elem_secs.info
 have HS:=ι fun w=>c4b w
 go_enter Tryz.func8,Tryz.ntmps8
 go_upto_region 2 with(at_make;refine wpList_make_full _ rfl _ _ 28 rfl w.heap.size 65 i0 (.agg (u8s (List.replicate 32 0)).toArray) 32 Tryz.underlying28 hi hz0 hz1 .i64 .i64 _ _ 65 rfl rfl rfl rfl (by rw[hz2];omega) (by unfold maxLen;omega) (Nat.le_refl _) ?_;intro w3 ho3 hg3;rw[b8f] at ho3;have hb3:=b3j hg3;have R3:=ι (b7w ho3);clear ho3 hg3)
 have hlt:w.heap.size<w3.heap.size:=(Array.getElem?_eq_some_iff.1 R3.out).1
 go_upto_region 3 with(first|(go_at_call 32;refine(HS.out _).mono ?_;rintro e w4 ⟨rfl,hb4⟩;have R4:=ι (a1h R3.out hb4 hlt))|(refine d0w rfl _ _ rfl rfl w.heap.size 0 rfl superSec rfl superSec_is _ (b0y 65) (by simp) R4.out ?_;intro w5 hA hB5;have R5:=ι hA;have hlt5:w.heap.size<w5.heap.size:=(Array.getElem?_eq_some_iff.1 hA).1;clear hA))
 have cs:w5.cell? ⟨w.heap.size,32,none⟩=some (.int .u8 0):=a0c R5.out 32 _ d4h
 have cf:w5.frozen? ⟨w.heap.size,32,none⟩=false:=a0d R5.out 32
 go_wp2_with fail
 go_ret
 have R7:(w5.setCell ⟨w.heap.size,32,none⟩ (.int .u8 2)).heap[w.heap.size]? = some (.cells (cellsOf emptyImg).toArray 65 (0,0)):=by
  rw[a0e R5.out (.int .u8 2)]
  exact congrArg (fun a=>some (Obj.cells a 65 (0,0))) img_set
 exact⟨_,_,rfl,c9x R7 a5c (by unfold maxLen;rw[b6r];omega),(((hb3.trans (hb4.mono (by omega))).trans hB5).setCell (p:=⟨w.heap.size,32,none⟩) (Nat.le_refl _) _)⟩
end ly
namespace ly
set_option maxRecDepth 100000
open Go.ChangeShapes Go.WideShapes Go.ChangeAt Go.RowKit
open rows
open sec
def mountsB(ss:List (List Int)):Bool:=decide (ss.length=65) && (decide (ss.getD 0 []=superSec) && decide (ss.getD 1 []=rootSec))
theorem b8i{s:List Int}(h:Sec s):(inoOfB s && (inoOfV s).kind == 2)=decide (s=rootSec):=by
 rw[Bool.eq_iff_iff,Bool.and_eq_true,beq_iff_eq,decide_eq_true_eq]
 constructor
 ·rintro⟨hb,hk⟩
  have e:inoOfV s=inoOf s:=by rw[inoOfV,if_pos hb]
  rw[e] at hk
  rw[inoOfB,Bool.and_eq_true,decide_eq_true_eq] at hb
  obtain⟨hr,hs⟩:=hb
  rw[a3d (Or.inr hk),Bool.and_eq_true,beq_iff_eq,beq_iff_eq] at hr
  rw[← hs]
  generalize inoOf s=x at *
  obtain⟨k,z,b⟩:=x
  simp only at hk hr
  rw[hk,hr.1,hr.2]
  rfl
 ·rintro rfl
  exact⟨by decide,by decide⟩
theorem two_of{w:World}{p:Option Addr}{c:Nat}{ss:List (List Int)}(hs:Secs ss)(hr:Rd w 32 (.slice p 65 c) 65 (cellsOf ss)) :
  ∃b1 o1,p=some ⟨b1,o1,none⟩∧65≤c∧(∀w',Below w.heap.size w w'→w'.rangeAt b1 o1 (u8s (ss.getD 0 [])))∧(∀w',Below w.heap.size w w'→w'.rangeAt b1 (o1+32) (u8s (ss.getD 1 []))) ∧
   Sec (ss.getD 0 [])∧Sec (ss.getD 1 [])∧mountsB ss=(decide (ss.getD 0 []=superSec) && decide (ss.getD 1 []=rootSec)):=by
 obtain⟨b1,o1,rfl,hc1,hm1,hh1,hl1,HR1⟩:=c6l hr hs (j:=0) (by omega)
 have l0:0<ss.length:=by omega
 have l1:1<ss.length:=by omega
 have e0:ss.getD 0 []=ss[0]:=by simp[List.getD,l0]
 have e1:ss.getD 1 []=ss[1]:=by simp[List.getD,l1]
 refine⟨b1,o1,rfl,hc1,fun w' hw => ?_,fun w' hw => ?_,?_,?_,?_⟩
 ·have h:=Rd.rangeLater (HR1 0 l0) hh1 hw
  rw[Nat.zero_mul,Nat.add_zero] at h
  rw[e0];exact h
 ·have h:=Rd.rangeLater (HR1 1 l1) hh1 hw
  rw[Nat.one_mul] at h
  rw[e1];exact h
 ·rw[e0];exact hs _ (List.getElem_mem l0)
 ·rw[e1];exact hs _ (List.getElem_mem l1)
 ·rw[mountsB,hl1];rfl
theorem b2z{ss:List (List Int)}(h:ss.length≠65):mountsB ss=false:=by rw[mountsB,decide_eq_false h];rfl
set_option maxRecDepth 100000 in
set_option maxHeartbeats 1600000 in
theorem c4r(p:Option Addr)(n c:Nat)(ss:List (List Int))(w:World)(hs:Secs ss)(hr:Rd w 32 (.slice p n c) n (cellsOf ss))(hn:n≤maxLen) :
  Calls Tryz.prog 67 #[.slice p n c] w (Rt w (.bool (mountsB ss))):=by
 have hl:ss.length=n:=by have h:=hr.cells;rw[a0r hs] at h;omega
 have HS:=ι fun w=>c7g w
 have HT:=ι fun w=>d4o w
 by_cases h65:n=65
 ·subst h65
  obtain⟨b1,o1,rfl,hc1,R0',R1',S0',S1',hM⟩:=two_of hs hr
  have R0:=ι R0'
  have R1:=ι R1'
  have S0:=ι S0'
  have S1:=ι S1'
  have HM:=ι hM
  clear hr hl hs R0' R1' S0' S1' hM
  generalize ss.getD 0 []=s0 at *
  generalize ss.getD 1 []=s1 at *
  have hg:=a4n
  have Q0:=ι fun w=>a6p w S0.out superSec_is
  have Q1:=ι fun w=>a6p w S1.out rootSec_is
  generalize decide (s1=rootSec)=d1 at Q1 HM
  cases hd:decide (s0=superSec) with
  | true =>
   rw[hd] at Q0 HM
   clear hd
   go_enter Tryz.func67,Tryz.ntmps67
   go_wp2_with fail
   have h0:=Below.refl w.drew.heap.size w.drew
   refine wp_region_held_drew (S:=ext w.drew) (by kernel_rfl) (Below.refl _ _) (fun hH0 => ?_)
   refine tk 0 rfl ?_
   refine tk 1 rfl ?_
   refine tk 2 rfl ?_
   refine tk 3 rfl ?_
   refine tk 4 rfl ?_
   refine tk 5 rfl ?_
   refine tkv 6 rfl (a5p (by rfl) _ rfl b1 o1 rfl s0 S0.out.1 (fun w' hw=>R0.out w' (a0u hw))) ?_
   refine rd 7 rfl (fun K hK => ?_)
   go_simp
   refine(HS.out _).mono ?_
   rintro e v1 ⟨rfl,hb1⟩
   have h1:=a0b h0 hb1
   dsimp only
   refine hK.out _ _ ?_ (fun hHeld => ?_)
   ·exact h1
   clear hK K
   try simp only[Act.put,List.setIfInBounds_toArray,List.set_cons_zero,List.set_cons_succ]
   refine wpAnyH_take (i:=8) (oi:={ dst:=some 11,op:=Op.binOp BinOp.eql 65 (Operand.tmp 9) (Operand.tmp 10) 65,type:=4,pos := "layout.go:150", after := #[{ on:=6,ground:=Ground.data },{ on:=7,ground:=Ground.data },{ on:=3,ground:=Ground.guard }],guard:=some (3,true) }) (v := ?_) rfl (by kernel_rfl) (by kernel_rfl) (by kernel_rfl) (fun _ _ _ h=>h) (Or.inl ⟨by rfl,?_⟩) (by assumption) ?_
   rotate_left
   ·(intro w' hSw;have hg:=a4n;have hq:=Q0.out w';go_simp;try with_reducible rfl)
   try simp only[Act.put,List.setIfInBounds_toArray,List.set_cons_zero,List.set_cons_succ]
   refine tk 9 rfl ?_
   refine tk 10 rfl ?_
   refine tk 11 rfl ?_
   refine tk 12 rfl ?_
   refine tkv 13 rfl (a5p (by rfl) _ rfl b1 (o1+32) rfl s1 S1.out.1 (fun w' hw=>R1.out w' (a0u hw))) ?_
   refine rd 14 rfl (fun K hK => ?_)
   go_simp
   refine(HT.out _).mono ?_
   rintro e v2 ⟨rfl,hb2⟩
   have h2:=a0b h1 hb2
   dsimp only
   refine hK.out _ _ ?_ (fun hHeld => ?_)
   ·exact h2
   clear hK K
   try simp only[Act.put,List.setIfInBounds_toArray,List.set_cons_zero,List.set_cons_succ]
   refine wpAnyH_take (i:=15) (oi:={ dst:=some 18,op:=Op.binOp BinOp.eql 65 (Operand.tmp 16) (Operand.tmp 17) 65,type:=4,pos := "layout.go:150", after := #[{ on:=13,ground:=Ground.data },{ on:=14,ground:=Ground.data },{ on:=10,ground:=Ground.guard }],guard:=some (10,true) }) (v := ?_) rfl (by kernel_rfl) (by kernel_rfl) (by kernel_rfl) (fun _ _ _ h=>h) (Or.inl ⟨by rfl,?_⟩) (by assumption) ?_
   rotate_left
   ·(intro w' hSw;have hg:=a4n;have hq:=Q1.out w';go_simp;try with_reducible rfl)
   try simp only[Act.put,List.setIfInBounds_toArray,List.set_cons_zero,List.set_cons_succ]
   refine tk 16 rfl ?_
   refine tk 17 rfl ?_
   refine wpAnyH_done (by kernel_rfl) ?_ _
   go_wp2_with fail
   go_ret
   exact⟨a0l (by rw[HM.out];rfl),a0u h2⟩
  | false =>
   rw[hd] at Q0 HM
   clear hd
   go_enter Tryz.func67,Tryz.ntmps67
   go_wp2_with fail
   have h0:=Below.refl w.drew.heap.size w.drew
   refine wp_region_held_drew (S:=ext w.drew) (by kernel_rfl) (Below.refl _ _) (fun hH0 => ?_)
   refine tk 0 rfl ?_
   refine tk 1 rfl ?_
   refine tk 2 rfl ?_
   refine tk 3 rfl ?_
   refine tk 4 rfl ?_
   refine tk 5 rfl ?_
   refine tkv 6 rfl (a5p (by rfl) _ rfl b1 o1 rfl s0 S0.out.1 (fun w' hw=>R0.out w' (a0u hw))) ?_
   refine rd 7 rfl (fun K hK => ?_)
   go_simp
   refine(HS.out _).mono ?_
   rintro e v1 ⟨rfl,hb1⟩
   have h1:=a0b h0 hb1
   dsimp only
   refine hK.out _ _ ?_ (fun hHeld => ?_)
   ·exact h1
   clear hK K
   try simp only[Act.put,List.setIfInBounds_toArray,List.set_cons_zero,List.set_cons_succ]
   refine wpAnyH_take (i:=8) (oi:={ dst:=some 11,op:=Op.binOp BinOp.eql 65 (Operand.tmp 9) (Operand.tmp 10) 65,type:=4,pos := "layout.go:150", after := #[{ on:=6,ground:=Ground.data },{ on:=7,ground:=Ground.data },{ on:=3,ground:=Ground.guard }],guard:=some (3,true) }) (v := ?_) rfl (by kernel_rfl) (by kernel_rfl) (by kernel_rfl) (fun _ _ _ h=>h) (Or.inl ⟨by rfl,?_⟩) (by assumption) ?_
   rotate_left
   ·(intro w' hSw;have hg:=a4n;have hq:=Q0.out w';go_simp;try with_reducible rfl)
   try simp only[Act.put,List.setIfInBounds_toArray,List.set_cons_zero,List.set_cons_succ]
   refine tk 9 rfl ?_
   refine tk 10 rfl ?_
   refine wpAnyH_take (i:=11) (oi:={ dst:=some 14,op:=Op.move (Operand.tmp 0),type:=28,pos := "layout.go:150", after := #[{ on:=10,ground:=Ground.guard }],guard:=some (10,true) }) (v:=undef) rfl (by kernel_rfl) (by kernel_rfl) (by kernel_rfl) (fun _ _ _ h=>h) (Or.inr ⟨by rfl,rfl⟩) (by assumption) ?_
   try simp only[Act.put,List.setIfInBounds_toArray,List.set_cons_zero,List.set_cons_succ]
   refine wpAnyH_take (i:=12) (oi:={ dst:=some 15,op:=Op.indexAddr 28 (Operand.tmp 14) (Operand.const (Value.int IntKind.i64 1)),type:=0,pos := "layout.go:150", after := #[{ on:=11,ground:=Ground.data },{ on:=10,ground:=Ground.guard }],guard:=some (10,true) }) (v:=undef) rfl (by kernel_rfl) (by kernel_rfl) (by kernel_rfl) (fun _ _ _ h=>h) (Or.inr ⟨by rfl,rfl⟩) (by assumption) ?_
   try simp only[Act.put,List.setIfInBounds_toArray,List.set_cons_zero,List.set_cons_succ]
   refine wpAnyH_take (i:=13) (oi:={ dst:=some 16,op:=Op.load 65 (Operand.tmp 15),type:=65,pos := "layout.go:150", after := #[{ on:=12,ground:=Ground.data },{ on:=10,ground:=Ground.guard }],guard:=some (10,true) }) (v:=undef) rfl (by kernel_rfl) (by kernel_rfl) (by kernel_rfl) (fun _ _ _ h=>h) (Or.inr ⟨by rfl,rfl⟩) (by assumption) ?_
   try simp only[Act.put,List.setIfInBounds_toArray,List.set_cons_zero,List.set_cons_succ]
   refine wpAnyH_take (i:=14) (oi:={ dst:=some 17,op:=Op.call { callee:=Callee.value (Operand.func 116),args := #[],argTypes := #[] },type:=65,pos := "layout.go:150", after := #[{ on:=10,ground:=Ground.chain },{ on:=10,ground:=Ground.guard }],guard:=some (10,true) }) (v:=undef) rfl (by kernel_rfl) (by kernel_rfl) (by kernel_rfl) (fun _ _ _ h=>h) (Or.inr ⟨by rfl,rfl⟩) (by assumption) ?_
   try simp only[Act.put,List.setIfInBounds_toArray,List.set_cons_zero,List.set_cons_succ]
   refine wpAnyH_take (i:=15) (oi:={ dst:=some 18,op:=Op.binOp BinOp.eql 65 (Operand.tmp 16) (Operand.tmp 17) 65,type:=4,pos := "layout.go:150", after := #[{ on:=13,ground:=Ground.data },{ on:=14,ground:=Ground.data },{ on:=10,ground:=Ground.guard }],guard:=some (10,true) }) (v:=undef) rfl (by kernel_rfl) (by kernel_rfl) (by kernel_rfl) (fun _ _ _ h=>h) (Or.inr ⟨by rfl,rfl⟩) (by assumption) ?_
   try simp only[Act.put,List.setIfInBounds_toArray,List.set_cons_zero,List.set_cons_succ]
   refine tk 16 rfl ?_
   refine tk 17 rfl ?_
   refine wpAnyH_done (by kernel_rfl) ?_ _
   go_wp2_with fail
   go_ret
   exact⟨a0l (by rw[HM.out];rfl),a0u h1⟩
 ·have HN:=ι (b2z (ss:=ss) (by omega))
  have hne:((n:Int) == 65)=false:=by rw[beq_eq_false_iff_ne];omega
  clear hr hl hs
  unfold maxLen at hn
  go_enter Tryz.func67,Tryz.ntmps67
  go_wp2_with fail
  go_quiet (fail)
  go_wp2_with fail
  go_ret
  exact⟨a0l HN.out.symm,b7z (Below.refl _ _) _⟩
end ly
namespace ly
set_option maxRecDepth 100000
open Go.ChangeShapes Go.WideShapes Go.ChangeAt Go.RowKit
open rows
open sec
theorem b5y{w:World}{p:Option Addr}{n c:Nat}{xs:List Int}(h:Rd w 1 (.slice p n c) n (u8s xs)):(convert 30 9 (.slice p n c)).run Tryz.prog w = .ok (.string (strOfNums xs)) w:=by
 rcases h with⟨p',cap',h1,rfl,hx,hp⟩|⟨b,off,cap,h1,h2,h2a,h2b,h3,h4,h5⟩
 ·cases h1
  obtain rfl:xs=[]:=by cases xs with|nil=>rfl|cons a t=>simp[u8s] at hx
  cases p with
  | none=>exact run_convert_bytes_nil w 30 5 Tryz.underlying30 Tryz.underlying5 0 c 9 Tryz.underlying9
  | some a =>
   rw[run_convert_bytes_string w 30 9 5 _ 0 c Tryz.underlying30 Tryz.underlying5 Tryz.underlying9,run_bytesToString w _ 0 c [] (by have:=run_loadCells_list (P:=Tryz.prog) w a [] (by simp);simpa using this),foldl_push_bytes]
   simp[strOfNums,ByteArray.empty,ByteArray.emptyWithCapacity]
   rfl
 ·cases h1
  have hl:xs.length=n:=by simpa [u8s] using h4
  exact run_convert_bytes_arg w 30 5 Tryz.underlying30 Tryz.underlying5 b off n c xs hl (fun i hi=>h5 i _ (by simp[u8s,List.getD,show i<xs.length by omega])) 9 Tryz.underlying9
theorem b0s{w:World}{ops:Array Oper}{o:Oper}{a:Act}{K:Act→World→Prop}{Q:Exit→Act→World→Prop}{F:Prop}(hw:Region.wanted o (yielded ops a.tmps)=true)(T U:TypeId)(x:Operand)(ho:o.op = .convert T U x)
  (u v:Value) (hx:a.eval x=u) (hv:(convert T U u).run Tryz.prog w = .ok v w) (h:K (a.put o.dst v) w):if Region.wanted o (yielded ops a.tmps)=true then Oper.wp Tryz.prog o a w K Q else F:=by
 rw[if_pos hw]
 unfold Oper.wp execOp
 simp only[ho,hx,Sem.run_bind,hv,Result.andThen_ok]
 exact h
theorem d1r:(Tryz.prog.info? 170).map (·.zero)=some (some (.agg #[.bool false,.int .i64 0,.string ByteArray.empty,.int .i64 0])):=by kernel_rfl
theorem a4h{ops:Array Oper}{o:Oper}{a:Act}{w:World}{K:Act→World→Prop}{Q:Exit→Act→World→Prop}{F:Prop}(hw:Region.wanted o (yielded ops a.tmps)=true)
  (ho:o.op = .alloc 170) (h:∀b w',w.heap.size≤b→AtE w' b ent0→Below w.heap.size w w'→K (a.put o.dst (.pointer (some ⟨b,0,none⟩))) w'):if Region.wanted o (yielded ops a.tmps)=true then Oper.wp Tryz.prog o a w K Q else F:=by
 rw[if_pos hw]
 have hz:=d1r
 have hzr:(zeroValue 170).run Tryz.prog w = .ok (.agg #[.bool false,.int .i64 0,.string ByteArray.empty,.int .i64 0]) w:=by
  cases hq:Tryz.prog.info? 170 with
  | none=>simp[hq] at hz
  | some it =>
   have h0:it.zero=some (.agg #[.bool false,.int .i64 0,.string ByteArray.empty,.int .i64 0]):=by simpa [hq] using hz
   simp[zeroValue,typeInfo,hq,h0]
 unfold Oper.wp execOp
 simp[ho,hzr,Instr.alloc,newVar,newRow,Value.cells]
 exact h _ _ (Nat.le_refl _) (heap_alloc_new _ _) (a0a (Below.refl _ _) _)
theorem a4j{w:World}{ops:Array Oper}{o:Oper}{a:Act}{K:Act→World→Prop}{Q:Exit→Act→World→Prop}{F:Prop}(hw:Region.wanted o (yielded ops a.tmps)=true)(p y:Operand)(ho:o.op = .store 170 p y)
  (g:Nat) (hp:a.eval p = .pointer (some ⟨g,0,none⟩)) (x:Ent) (hy:a.eval y=aggE x) (old:Ent) (hg:AtE w g old)
  (h:∀w',AtE w' g x→Below g w w'→(∀k,k≠g→w'.heap[k]? = w.heap[k]?)→K (a.put o.dst undef) w'):if Region.wanted o (yielded ops a.tmps)=true then Oper.wp Tryz.prog o a w K Q else F:=by
 rw[if_pos hw]
 exact wp_store_row 170 p y ho g #[.bool x.used,.int .i64 x.parent,.string x.name,.int .i64 x.target] hp hy 170 _ hg (by rw[a6h];rfl) rfl (by simp[Value.oneCell'])
  (h _ (setRow_heap w g _ _ _ _ hg) ((Below.refl g w).trans ⟨rfl,rfl,rfl,by simp[World.setRow],fun k hk=>setRow_other w g k _ (by omega)⟩) (fun k hk=>setRow_other w g k _ hk))
theorem a1l{ops:Array Oper}{rest:List Oper}{o:Oper}{a:Act}{w:World}{Q:Exit→Act→World→Prop}(hgd:o.guard=none)(p y:Operand)(ho:o.op = .store 170 p y)(hd:o.dst=none)
  (g:Nat) (x old:Ent) (hp:a.eval p = .pointer (some ⟨g,0,none⟩)) (hy:a.eval y=aggE x) (hg:AtE w g old)
  (h:∀w',AtE w' g x→Below g w w'→(∀k,k≠g→w'.heap[k]? = w.heap[k]?)→wpList Tryz.prog ops Q rest a w'):wpList Tryz.prog ops Q (o::rest) a w:=by
 refine wpList_store_row hgd 170 p y ho g #[.bool x.used,.int .i64 x.parent,.string x.name,.int .i64 x.target] hp hy 170 _ hg (by rw[a6h];rfl) rfl (by simp[Value.oneCell']) ?_
 rw[hd]
 exact h _ (setRow_heap w g _ _ _ _ hg) ((Below.refl g w).trans ⟨rfl,rfl,rfl,by simp[World.setRow],fun k hk=>setRow_other w g k _ (by omega)⟩) (fun k hk=>setRow_other w g k _ hk)
theorem b5e{fn:Func}{p q:Tmp}{R:Ending→World→Prop}{a:Act}{w:World}(h:fn.results = #[.cell p 170,.tmp q])(g:Nat)(x:Ent)(v:Value)(hp:a.tmps.getD p undef = .pointer (some ⟨g,0,none⟩))(hq:a.tmps.getD q undef=v)(hg:AtE w g x)
  (hd:a.defers=[]) (hR:R (.returned (.tuple #[aggE x,v])) w):bodyPost Tryz.prog fn R .ret a w:=by
 refine bodyPost_ret (v := .tuple #[aggE x,v]) ?_ hd hR
 have hp':a.tmps[p]?.getD undef = .pointer (some ⟨g,0,none⟩):=by simpa using hp
 have hq':a.tmps[q]?.getD undef=v:=by simpa using hq
 have hl:=run_loadVar_row (P:=Tryz.prog) w g _ 170 _ _ _ hg b4x rfl (by rw[a6h];rfl)
 simp[results,h,hp',hq',asAddr,hl]
structure BoxesT (w W:World) (s:List Int):Prop where
 sec:At W w.heap.size s
 ent:AtE W (w.heap.size+1) ent0
 below:Below w.heap.size w W
theorem boxesT(w:World)(s:List Int)(hs:Sec s):∃W,(w.alloc (.cells (u8s s).toArray 65)).alloc (.cells #[.bool false,.int .i64 0,.string { data := #[] },.int .i64 0] 170)=W∧BoxesT w W s :=
 ⟨_,rfl,(at_new w s).alloc _,by have:=a2t (w.alloc (.cells (u8s s).toArray 65)) ent0;rw[show (w.alloc (.cells (u8s s).toArray 65)).heap.size=w.heap.size+1 by simp] at this;exact this,a0a (a0a (Below.refl _ _) _) _⟩
theorem BoxesT.later{w W W':World}{s:List Int}(h:BoxesT w W s)(hb:Below W.heap.size W W'):BoxesT w W' s:=⟨h.sec.later hb,h.ent.later hb,a0b h.below hb⟩
theorem BoxesT.drew{w W:World}{s:List Int}(h:BoxesT w W s):BoxesT w W.drew s:=⟨h.sec,h.ent,h.below.drew⟩
structure Parts (w W wc:World) (s:List Int) (g:Nat) (x:Ent):Prop where
 box:BoxesT w wc s
 ent:AtE wc g x
 up:W.heap.size≤g
end ly
namespace ly
set_option maxRecDepth 100000
open Go.ChangeShapes Go.WideShapes Go.ChangeAt Go.RowKit
open rows
open sec
open dsk (a0n)
theorem c1e:Tryz.prog.underlying 5=some (.int .u8):=Tryz.underlying5
theorem b1r{z:Int}(h:0≤z∧z<256):IntKind.i64.wrap z=z:=by
 simp[IntKind.wrap,IntKind.signed,IntKind.bits]
 omega
set_option maxRecDepth 100000 in
set_option maxHeartbeats 3200000 in
theorem b2a(s:List Int)(hs:Sec s)(w:World) :
  Calls Tryz.prog 156 #[agg s] w (Rt w (.tuple #[aggE (entOfV s),.bool (entOfB s)])):=by
 obtain⟨W,hW,HB'⟩:=boxesT w s hs
 have HB:=ι HB'
 have HS:=ι hs
 have hb0:=a1q hs 0
 have hb1:=a1q hs 1
 have hb2:=a1q hs 2
 have hb3:=a1q hs 3
 have HC0:=ι fun W' (hb:Below W.drew.heap.size W.drew W')=>atD (HB'.drew.later hb).sec (i:=0) (by rw[hs.1];omega)
 have HC1:=ι fun W' (hb:Below W.drew.heap.size W.drew W')=>atD (HB'.drew.later hb).sec (i:=1) (by rw[hs.1];omega)
 have HC2:=ι fun W' (hb:Below W.drew.heap.size W.drew W')=>atD (HB'.drew.later hb).sec (i:=2) (by rw[hs.1];omega)
 have HC3:=ι fun W' (hb:Below W.drew.heap.size W.drew W')=>atD (HB'.drew.later hb).sec (i:=3) (by rw[hs.1];omega)
 have HI:=ι fun w=>b1n (entC s) (entC_ok hs) w
 have HVS:=ι (a1i (entC s))
 have HE1:Hid (entOfB s=true→entOfV s=entC s):=ι fun h=>by rw[entOfV,if_pos h]
 have HE0:Hid (entOfB s=false→entOfV s=ent0):=ι fun h=>by rw[entOfV,if_neg (by simp[h])]
 have HOB:Hid (entOfB s=(rightE (entC s) && decide (entSec (entC s)=s))):=ι rfl
 have HV1:Hid (rightE (entC s)=true→entV (entC s)=entSec (entC s)):=ι fun h=>by rw[entV,if_pos h]
 have HE:Hid ((⟨s.getD 0 0 == 1,s.getD 1 0,strOfNums (cutOf s 16 (s.getD 3 0)),s.getD 2 0⟩:Ent)=entC s):=ι rfl
 have HCU:=ι fun W'=>cut_is s 16 (s.getD 3 0) W' hs (by decide) (a0f hb3)
 clear HB' hs
 generalize s.getD 0 0=k0 at hb0 HC0 HE
 generalize s.getD 1 0=k1 at hb1 HC1 HE
 generalize s.getD 2 0=k2 at hb2 HC2 HE
 generalize s.getD 3 0=k3 at hb3 HC3 HE HCU
 obtain⟨b00,b01⟩:=hb0
 obtain⟨b10,b11⟩:=hb1
 obtain⟨b20,b21⟩:=hb2
 obtain⟨b30,b31⟩:=hb3
 have W1:Hid (IntKind.i64.wrap k1=k1):=ι (b1r ⟨b10,b11⟩)
 have W2:Hid (IntKind.i64.wrap k2=k2):=ι (b1r ⟨b20,b21⟩)
 have W3:Hid (IntKind.i64.wrap k3=k3):=ι (b1r ⟨b30,b31⟩)
 go_enter Tryz.func156,Tryz.ntmps156
 go_upto_region 1 with fail
 clear hW
 go_cut [4] from 7 (fun ptr wc=>∃g,ptr = .pointer (some ⟨g,0,none⟩)∧Parts w W wc s g (entC s))
 case first =>
  have h0:=Below.refl W.drew.heap.size W.drew
  refine wp_region_held_drew (S:=ext W.drew) (by kernel_rfl) (Below.refl _ _) (fun hH0 => ?_)
  refine tk 0 rfl ?_
  refine tkv 1 rfl (a0n (by rfl) 5 _ c1e rfl _ rfl w.heap.size 0 rfl _ (fun w' hw=>HC0.out w' hw)) ?_
  refine tk 2 rfl ?_
  refine tk 3 rfl ?_
  refine tkv 4 rfl (a0n (by rfl) 5 _ c1e rfl _ rfl w.heap.size 1 rfl _ (fun w' hw=>HC1.out w' hw)) ?_
  refine wpAnyH_take (i:=5) (oi:={ dst:=some 12,op:=Op.convert 5 3 (Operand.tmp 11),type:=3,pos := "layout.go:114", after := #[{ on:=4,ground:=Ground.data }],guard:=none }) (v := ?_) rfl (by kernel_rfl) (by kernel_rfl) (by kernel_rfl) (fun _ _ _ h=>h) (Or.inl ⟨by rfl,?_⟩) (by assumption) ?_
  rotate_left
  ·(intro w' hSw;have e:=W1.out;go_simp;try with_reducible rfl)
  try simp only[Act.put,List.setIfInBounds_toArray,List.set_cons_zero,List.set_cons_succ]
  refine tk 6 rfl ?_
  refine tkv 7 rfl (a0n (by rfl) 5 _ c1e rfl _ rfl w.heap.size 2 rfl _ (fun w' hw=>HC2.out w' hw)) ?_
  refine wpAnyH_take (i:=8) (oi:={ dst:=some 15,op:=Op.convert 5 3 (Operand.tmp 14),type:=3,pos := "layout.go:114", after := #[{ on:=7,ground:=Ground.data }],guard:=none }) (v := ?_) rfl (by kernel_rfl) (by kernel_rfl) (by kernel_rfl) (fun _ _ _ h=>h) (Or.inl ⟨by rfl,?_⟩) (by assumption) ?_
  rotate_left
  ·(intro w' hSw;have e:=W2.out;go_simp;try with_reducible rfl)
  try simp only[Act.put,List.setIfInBounds_toArray,List.set_cons_zero,List.set_cons_succ]
  refine tkv 9 rfl (a5p (by rfl) _ rfl w.heap.size 0 rfl s HS.out.1 (fun w' hw=>(HB.out.drew.later hw).sec.range)) ?_
  refine tk 10 rfl ?_
  refine tkv 11 rfl (a0n (by rfl) 5 _ c1e rfl _ rfl w.heap.size 3 rfl _ (fun w' hw=>HC3.out w' hw)) ?_
  refine wpAnyH_take (i:=12) (oi:={ dst:=some 19,op:=Op.convert 5 3 (Operand.tmp 18),type:=3,pos := "layout.go:114", after := #[{ on:=11,ground:=Ground.data }],guard:=none }) (v := ?_) rfl (by kernel_rfl) (by kernel_rfl) (by kernel_rfl) (fun _ _ _ h=>h) (Or.inl ⟨by rfl,?_⟩) (by assumption) ?_
  rotate_left
  ·(intro w' hSw;have e:=W3.out;go_simp;try with_reducible rfl)
  try simp only[Act.put,List.setIfInBounds_toArray,List.set_cons_zero,List.set_cons_succ]
  refine wpAnyH_ready (rs:=[13,16]) (by kernel_rfl) (by simp) ?_
  refine AllReadyH.cons (o:={ dst:=some 20,op:=Op.call { callee:=Callee.value (Operand.func 196),args := #[Operand.tmp 16,Operand.const (Value.int IntKind.i64 16),Operand.tmp 19],argTypes := #[65,3,3] },type:=30,pos := "layout.go:118", after := #[{ on:=9,ground:=Ground.data },{ on:=12,ground:=Ground.data }],guard:=none }) rfl (fun K hK => ?_) (AllReadyH.cons (o:={ dst:=some 4,op:=Op.alloc 170,type:=0,pos := "layout.go:114", after := #[],guard:=none }) rfl (fun K hK => ?_) AllReadyH.nil)
  ·go_simp
   with_reducible refine(HCU.out _).mono ?_
   rintro e v1 ⟨p1,c1,rfl,hr1,hb1⟩
   have R13:=ι hr1
   have B13:=ι hb1
   have h1:=a0b h0 hb1
   clear hr1
   dsimp only
   refine hK.out _ _ ?_ (fun hHeld => ?_)
   ·exact h1
   clear hK K
   try simp only[Act.put,List.setIfInBounds_toArray,List.set_cons_zero,List.set_cons_succ]
   refine wpAnyH_ready (rs:=[14,16]) (by kernel_rfl) (by simp) ?_
   refine AllReadyH.cons (o:={ dst:=some 21,op:=Op.convert 30 9 (Operand.tmp 20),type:=9,pos := "layout.go:114", after := #[{ on:=13,ground:=Ground.data }],guard:=none }) rfl (fun K hK => ?_) (AllReadyH.cons (o:={ dst:=some 4,op:=Op.alloc 170,type:=0,pos := "layout.go:114", after := #[],guard:=none }) rfl (fun K hK => ?_) AllReadyH.nil)
   ·refine b0s (by rfl) 30 9 _ rfl _ (.string (strOfNums (cutOf s 16 k3))) rfl (b5y (by first|exact R13.out|exact R13.out.later B16.out)) ?_
    have h2:=h1
    refine hK.out _ _ ?_ (fun hHeld => ?_)
    ·exact h2
    clear hK K
    try simp only[Act.put,List.setIfInBounds_toArray,List.set_cons_zero,List.set_cons_succ]
    refine tk 15 rfl ?_
    refine rd 16 rfl (fun K hK => ?_)
    refine a4h (by rfl) rfl ?_
    intro b16 v3 hv3 ha3 hb3
    have A16:=ι ha3
    have B16:=ι hb3
    have V16:Hid (W.heap.size≤b16):=ι (Nat.le_trans (h2).size hv3)
    have h3:=a0b h2 hb3
    clear ha3
    refine hK.out _ _ ?_ (fun hHeld => ?_)
    ·exact h3
    clear hK K
    try simp only[Act.put,List.setIfInBounds_toArray,List.set_cons_zero,List.set_cons_succ]
    refine rd 17 rfl (fun K hK => ?_)
    refine a4j (by rfl) _ _ rfl b16 rfl (entC s) (by rw[← HE.out];rfl) ent0 (by first|exact A16.out|exact A16.out.later B13.out) ?_
    intro v4 ha4 hb4 ho4
    have A17:=ι ha4
    have h4:=h3.trans (hb4.mono V16.out)
    refine hK.out _ _ ?_ (fun hHeld => ?_)
    ·exact h4
    clear hK K
    try simp only[Act.put,List.setIfInBounds_toArray,List.set_cons_zero,List.set_cons_succ]
    refine wpAnyH_done (by kernel_rfl) ?_ _
    go_wp2_with fail
    go_meet
    case rel=>exact⟨_,rfl,HB.out.drew.later h4,A17.out,V16.out⟩
   ·refine a4h (by rfl) rfl ?_
    intro b16 v5 hv5 ha5 hb5
    have A16:=ι ha5
    have B16:=ι hb5
    have V16:Hid (W.heap.size≤b16):=ι (Nat.le_trans (h1).size hv5)
    have h5:=a0b h1 hb5
    clear ha5
    refine hK.out _ _ ?_ (fun hHeld => ?_)
    ·exact h5
    clear hK K
    try simp only[Act.put,List.setIfInBounds_toArray,List.set_cons_zero,List.set_cons_succ]
    refine rd 14 rfl (fun K hK => ?_)
    refine b0s (by rfl) 30 9 _ rfl _ (.string (strOfNums (cutOf s 16 k3))) rfl (b5y (by first|exact R13.out|exact R13.out.later B16.out)) ?_
    have h6:=h5
    refine hK.out _ _ ?_ (fun hHeld => ?_)
    ·exact h6
    clear hK K
    try simp only[Act.put,List.setIfInBounds_toArray,List.set_cons_zero,List.set_cons_succ]
    refine tk 15 rfl ?_
    refine rd 17 rfl (fun K hK => ?_)
    refine a4j (by rfl) _ _ rfl b16 rfl (entC s) (by rw[← HE.out];rfl) ent0 (by first|exact A16.out|exact A16.out.later B13.out) ?_
    intro v7 ha7 hb7 ho7
    have A17:=ι ha7
    have h7:=h6.trans (hb7.mono V16.out)
    refine hK.out _ _ ?_ (fun hHeld => ?_)
    ·exact h7
    clear hK K
    try simp only[Act.put,List.setIfInBounds_toArray,List.set_cons_zero,List.set_cons_succ]
    refine wpAnyH_done (by kernel_rfl) ?_ _
    go_wp2_with fail
    go_meet
    case rel=>exact⟨_,rfl,HB.out.drew.later h7,A17.out,V16.out⟩
  ·refine a4h (by rfl) rfl ?_
   intro b16 v8 hv8 ha8 hb8
   have A16:=ι ha8
   have B16:=ι hb8
   have V16:Hid (W.heap.size≤b16):=ι (Nat.le_trans (h0).size hv8)
   have h8:=a0b h0 hb8
   clear ha8
   refine hK.out _ _ ?_ (fun hHeld => ?_)
   ·exact h8
   clear hK K
   try simp only[Act.put,List.setIfInBounds_toArray,List.set_cons_zero,List.set_cons_succ]
   refine rd 13 rfl (fun K hK => ?_)
   go_simp
   with_reducible refine(HCU.out _).mono ?_
   rintro e v9 ⟨p9,c9,rfl,hr9,hb9⟩
   have R13:=ι hr9
   have B13:=ι hb9
   have h9:=a0b h8 hb9
   clear hr9
   dsimp only
   refine hK.out _ _ ?_ (fun hHeld => ?_)
   ·exact h9
   clear hK K
   try simp only[Act.put,List.setIfInBounds_toArray,List.set_cons_zero,List.set_cons_succ]
   refine rd 14 rfl (fun K hK => ?_)
   refine b0s (by rfl) 30 9 _ rfl _ (.string (strOfNums (cutOf s 16 k3))) rfl (b5y (by first|exact R13.out|exact R13.out.later B16.out)) ?_
   have h10:=h9
   refine hK.out _ _ ?_ (fun hHeld => ?_)
   ·exact h10
   clear hK K
   try simp only[Act.put,List.setIfInBounds_toArray,List.set_cons_zero,List.set_cons_succ]
   refine tk 15 rfl ?_
   refine rd 17 rfl (fun K hK => ?_)
   refine a4j (by rfl) _ _ rfl b16 rfl (entC s) (by rw[← HE.out];rfl) ent0 (by first|exact A16.out|exact A16.out.later B13.out) ?_
   intro v11 ha11 hb11 ho11
   have A17:=ι ha11
   have h11:=h10.trans (hb11.mono V16.out)
   refine hK.out _ _ ?_ (fun hHeld => ?_)
   ·exact h11
   clear hK K
   try simp only[Act.put,List.setIfInBounds_toArray,List.set_cons_zero,List.set_cons_succ]
   refine wpAnyH_done (by kernel_rfl) ?_ _
   go_wp2_with fail
   go_meet
   case rel=>exact⟨_,rfl,HB.out.drew.later h11,A17.out,V16.out⟩
 case rest =>
  obtain⟨g,rfl,hpt⟩:=hcut
  have HP:=ι hpt
  have hg:w.heap.size+1<g:=by
   have h1:=(Array.getElem?_eq_some_iff.1 HB.out.ent).1
   have h2:=hpt.up
   omega
  clear hpt
  generalize hr:rightE (entC s)=r at HI HOB HV1
  generalize entV (entC s)=v at HI HVS HV1
  cases r with
  | false =>
   have HN:Hid (entOfB s=false):=ι (by rw[HOB.out];rfl)
   have HZ:Hid (entOfV s=ent0):=ι (HE0.out HN.out)
   go_wp2_with (first|(refine a3n rfl _ rfl g rfl _ HP.out.ent ?_)|(go_at_call 169;refine(HI.out _).mono ?_;rintro e w4 ⟨rfl,hb4⟩;have HB4:=ι (HP.out.box.later hb4);clear hb4)|(refine a0k rfl _ _ rfl rfl w4.heap.size v zero32 rfl rfl HVS.out.1 (by decide) (a1n w4) ?_;intro w5 hA hB5 hO5;have A5:=ι hA;have HB5:=ι (HB4.out.later ((a0a (Below.refl _ _) _).trans hB5));clear hA hO5 hB5)|(refine a1l rfl _ _ rfl rfl (w.heap.size+1) ent0 ent0 rfl rfl HB5.out.ent ?_;intro w6 hA hB6 _;have A6:=ι hA;clear hA))
   refine b5e rfl (w.heap.size+1) _ _ rfl rfl A6.out rfl ⟨by rw[HZ.out,HN.out];rfl,?_⟩
   exact HB5.out.below.trans (hB6.mono (by omega))
  | true =>
   have e:=HV1.out rfl
   have hgs:=a4n
   generalize hd:decide (entSec (entC s)=s)=d at HOB
   have hq:∀w,(Op.equalIn 10000 65 (agg s) (agg v)).run Tryz.prog w = .ok d w:=fun w=>(a6p w HS.out HVS.out).trans (by rw[← hd,e];congr 1;rw[Bool.eq_iff_iff];simp[eq_comm])
   have hq2:∀w,(Op.equalIn 10000 65 (agg v) (agg s)).run Tryz.prog w = .ok d w:=fun w=>(a6p w HVS.out HS.out).trans (by rw[← hd,e])
   clear e hd
   cases d with
   | false =>
    have HN:Hid (entOfB s=false):=ι (by rw[HOB.out];rfl)
    have HZ:Hid (entOfV s=ent0):=ι (HE0.out HN.out)
    go_wp2_with (first|(refine a3n rfl _ rfl g rfl _ HP.out.ent ?_)|(go_at_call 169;refine(HI.out _).mono ?_;rintro e w4 ⟨rfl,hb4⟩;have HB4:=ι (HP.out.box.later hb4);clear hb4)|(refine a0k rfl _ _ rfl rfl w4.heap.size v zero32 rfl rfl HVS.out.1 (by decide) (a1n w4) ?_;intro w5 hA hB5 hO5;have A5:=ι hA;have HB5:=ι (HB4.out.later ((a0a (Below.refl _ _) _).trans hB5));clear hA hO5 hB5)|(refine a2r ?_ _ rfl w.heap.size rfl s HS.out.1 HB5.out.sec ?_;· rfl)|(refine a2r ?_ _ rfl w4.heap.size rfl v HVS.out.1 A5.out ?_;· rfl)|(refine a1l rfl _ _ rfl rfl (w.heap.size+1) ent0 ent0 rfl rfl HB5.out.ent ?_;intro w6 hA hB6 _;have A6:=ι hA;clear hA))
    refine b5e rfl (w.heap.size+1) _ _ rfl rfl A6.out rfl ⟨by rw[HZ.out,HN.out];rfl,?_⟩
    exact HB5.out.below.trans (hB6.mono (by omega))
   | true =>
    have HN:Hid (entOfB s=true):=ι (by rw[HOB.out];rfl)
    have HZ:Hid (entOfV s=(entC s)):=ι (HE1.out HN.out)
    go_wp2_with (first|(refine a3n rfl _ rfl g rfl _ HP.out.ent ?_)|(go_at_call 169;refine(HI.out _).mono ?_;rintro e w4 ⟨rfl,hb4⟩;have HB4:=ι (HP.out.box.later hb4);have A4:=ι (HP.out.ent.later hb4);clear hb4)|(refine a0k rfl _ _ rfl rfl w4.heap.size v zero32 rfl rfl HVS.out.1 (by decide) (a1n w4) ?_;intro w5 hA hB5 hO5;have A5:=ι hA;have HB5:=ι (HB4.out.later ((a0a (Below.refl _ _) _).trans hB5));have A45:=ι (A4.out.later ((a0a (Below.refl _ _) _).trans hB5));clear hA hO5 hB5)|(refine a2r ?_ _ rfl w.heap.size rfl s HS.out.1 HB5.out.sec ?_;· rfl)|(refine a2r ?_ _ rfl w4.heap.size rfl v HVS.out.1 A5.out ?_;· rfl)|(refine a3n rfl _ rfl g rfl _ A45.out ?_)|(refine a1l rfl _ _ rfl rfl (w.heap.size+1) (entC s) ent0 rfl rfl HB5.out.ent ?_;intro w6 hA hB6 _;have A6:=ι hA;clear hA))
    refine b5e rfl (w.heap.size+1) _ _ rfl rfl A6.out rfl ⟨by rw[HZ.out,HN.out];rfl,?_⟩
    exact HB5.out.below.trans (hB6.mono (by omega))
end ly
namespace ly
set_option maxRecDepth 100000
open Go.ChangeShapes Go.WideShapes Go.ChangeAt Go.RowKit
open rows
open sec
section
variable {H:Type} {enc:TypeId×Value→H} {W:World} {base:Nat} {spare:Nat→Bool} {held:Bool}
end
theorem AtE.range{w:World}{g:Nat}{x:Ent}(h:AtE w g x):w.rangeAt g 0 [.bool x.used,.int .i64 x.parent,.string x.name,.int .i64 x.target]:=by
 have:=World.rangeAt_of_block h 0 4
 simpa using this
theorem d5h{ops:Array Oper}{S:World→Prop}{op:Oper}{a:Act}(hw:Region.wanted op (yielded ops a.tmps)=true)(p:Operand)(ho:op.op = .load 170 p)
  (g:Nat) (hp:a.eval p = .pointer (some ⟨g,0,none⟩)) (x:Ent) (hS:∀w,S w→AtE w g x):YieldsIf Tryz.prog ops S op (aggE x) a :=
 Go.yieldsIf_load_mid hw _ p ho g 0 hp [.bool x.used,.int .i64 x.parent,.string x.name,.int .i64 x.target] _ (fun w h=>(hS w h).range) b4x rfl (by rw[a6h];rfl)
end ly
end Go.Proofs.YtpnahagiojelbaaGreatDoor
