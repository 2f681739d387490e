/- What ViewBack wants, part 20. -/
import Derived.Test.YtjedjkjhodgidaaGreatDoorViewBackA
import Derived.Test.YtjedjkjhodgidaaGreatDoorViewBackB
import Derived.Test.YtjedjkjhodgidaaGreatDoorViewBackD
import Derived.Test.YtjedjkjhodgidaaGreatDoorViewBackI
import Derived.Test.YtjedjkjhodgidaaGreatDoorViewBackK
import Derived.Test.YtjedjkjhodgidaaGreatDoorViewBackP
import Derived.Test.YtjedjkjhodgidaaGreatDoorViewBackQ
import Derived.Lib.BufferWrite
import Derived.Deep.CutRange
set_option linter.unusedVariables false
set_option linter.unusedSimpArgs false
namespace Go.Proofs.YtjedjkjhodgidaaGreatDoor
namespace ly
set_option maxRecDepth 100000
open Go.ChangeShapes Go.WideShapes Go.ChangeAt Go.RowKit
open rows
open sec
open dsk (a0c a0j)
theorem b0f{w:World}(ty:TypeId)(g off dLen dCap:Nat)(s:ByteArray)(old:List Int)(hg:At w g old)(hle:s.size≤dLen)(hfit:off+s.size≤old.length) :
  (Builtin.copy_ #[54,9] ty #[.slice (some ⟨g,off,none⟩) dLen dCap,.string s]).run Tryz.prog w = .ok (goInt s.size) (w.setRow g (u8s (splice old off (bys s))).toArray):=by
 have h:=Lib.run_copy_row_string (P:=Tryz.prog) w 54 9 ty 5 g off dLen dCap s (u8s old).toArray 74 Tryz.underlying54 (by kernel_rfl) hg hle (by simpa [u8s] using hfit)
 have e:(u8s old).toArray.toList.take off++Lib.byteCells s.data.toList++(u8s old).toArray.toList.drop (off+s.size)=u8s (splice old off (bys s)):=by
  have e1:Lib.byteCells s.data.toList=u8s (bys s):=by simp[Lib.byteCells,u8s,bys]
  have e2:s.size=(u8s (bys s)).length:=by simp[u8s,a0d]
  rw[e1,e2,← b4t,List.append_assoc];rfl
 rw[e] at h
 exact h
theorem a3z{ops:Array Oper}{o:Oper}{a:Act}{w:World}{K:Act→World→Prop}{Q:Exit→Act→World→Prop}{E:Prop}(hgd:o.guard=none)(d s:Operand)
  (ho:o.op = .call { callee := .builtin .copy,args := #[d,s],argTypes := #[54,9] }) (g off dLen dCap:Nat)
  (hd:a.eval d = .slice (some ⟨g,off,none⟩) dLen dCap) (t:ByteArray) (hs:a.eval s = .string t) (old:List Int) (hg:At w g old) (hle:t.size≤dLen) (hfit:off+t.size≤old.length)
  (h:∀w',At w' g (splice old off (bys t))→Below g w w'→(∀k,k≠g→w'.heap[k]? = w.heap[k]?)→K (a.put o.dst (goInt t.size)) w') :
  if Region.wanted o (yielded ops a.tmps)=true then Oper.wp Tryz.prog o a w K Q else E:=by
 have hw:Region.wanted o (yielded ops a.tmps)=true:=by simp[Region.wanted,hgd]
 rw[if_pos hw]
 have hrun:=b0f o.type g off dLen dCap t old hg hle hfit
 unfold Oper.wp
 simp[execOp,ho,resolve,invoke,builtin,hd,hs,hrun,Result.andThen]
 exact h _ (setRow_heap w g _ _ _ _ hg) ((Below.refl g w).trans ⟨rfl,rfl,rfl,by simp[World.setRow],fun k hk=>setRow_other w g k _ (by omega)⟩) (fun k hk=>setRow_other w g k _ hk)
def AtE(w:World)(g:Nat)(x:Ent):Prop:=w.heap[g]? = some (.cells #[.bool x.used,.int .i64 x.parent,.string x.name,.int .i64 x.target] 119)
theorem AtE.later{w w':World}{g:Nat}{x:Ent}(h:AtE w g x)(k:Below w.heap.size w w'):AtE w' g x:=(k.block g (Array.getElem?_eq_some_iff.1 h).1).trans h
theorem AtE.alloc{w:World}{g:Nat}{x:Ent}(h:AtE w g x)(o:Obj):AtE (w.alloc o) g x:=h.later (a0b (Below.refl _ _) o)
theorem a4o(w:World)(x:Ent):AtE (w.alloc (.cells #[.bool x.used,.int .i64 x.parent,.string x.name,.int .i64 x.target] 119)) w.heap.size x:=heap_alloc_new _ _
theorem AtE.cell0{w:World}{g:Nat}{x:Ent}(h:AtE w g x):w.cell? ⟨g,0,none⟩=some (.bool x.used):=a0c h 0 _ rfl
theorem AtE.cell1{w:World}{g:Nat}{x:Ent}(h:AtE w g x):w.cell? ⟨g,1,none⟩=some (.int .i64 x.parent):=a0c h 1 _ rfl
theorem AtE.cell2{w:World}{g:Nat}{x:Ent}(h:AtE w g x):w.cell? ⟨g,2,none⟩=some (.string x.name):=a0c h 2 _ rfl
theorem AtE.cell3{w:World}{g:Nat}{x:Ent}(h:AtE w g x):w.cell? ⟨g,3,none⟩=some (.int .i64 x.target):=a0c h 3 _ rfl
theorem b0x:Tryz.prog.underlying 119=some (.struct (Tryz.prog.fieldsOf 119)):=by kernel_rfl
theorem a3t:(Tryz.prog.info? 119).map (·.size)=some 4:=by kernel_rfl
theorem a2m{ops:Array Oper}{rest:List Oper}{o:Oper}{a:Act}{w:World}{Q:Exit→Act→World→Prop}(hgd:o.guard=none)(p:Operand)(ho:o.op = .load 119 p)
  (g:Nat) (hp:a.eval p = .pointer (some ⟨g,0,none⟩)) (x:Ent) (hg:AtE w g x)
  (h:wpList Tryz.prog ops Q rest (a.put o.dst (aggE x)) w):wpList Tryz.prog ops Q (o::rest) a w :=
 wpList_load_row hgd 119 p ho g hp 119 _ _ _ hg b0x rfl (by rw[a3t];rfl) h
structure BoxesE (w W:World) (x:Ent) (s:List Int):Prop where
 ent:AtE W w.heap.size x
 out:At W (w.heap.size+1) s
 below:Below w.heap.size w W
theorem boxesE(w:World)(x:Ent):∃W,(w.alloc (.cells #[.bool x.used,.int .i64 x.parent,.string x.name,.int .i64 x.target] 119)).alloc (.cells (u8s zero32).toArray 74)=W∧BoxesE w W x zero32 :=
 ⟨_,rfl,(a4o w x).alloc _,by have:=at_new (w.alloc (.cells #[.bool x.used,.int .i64 x.parent,.string x.name,.int .i64 x.target] 119)) zero32;simpa using this,a0b (a0b (Below.refl _ _) _) _⟩
theorem BoxesE.later{w W W':World}{x:Ent}{s:List Int}(h:BoxesE w W x s)(hb:Below W.heap.size W W'):BoxesE w W' x s:=⟨h.ent.later hb,h.out.later hb,a0a h.below hb⟩
set_option maxRecDepth 100000 in
set_option maxHeartbeats 1600000 in
theorem b8z(x:Ent)(hx:x.ok)(w:World)(hr:rightE x=false) :
  Calls Tryz.prog 151 #[aggE x] w (Rt w (.tuple #[agg zero32,.bool false])):=by
 obtain⟨W,hW,HB'⟩:=boxesE w x
 have HB:=ι HB'
 have HX:=ι hx
 have HR:=ι fun w=>a6v x hx w
 rw[hr] at HR
 clear HB' hx
 go_enter Tryz.func151,Tryz.ntmps151
 go_upto_region 1 with fail
 rw[a0u,hW]
 clear hW
 go_wp2_with (first|(refine a2m rfl _ rfl w.heap.size rfl x HB.out.ent ?_)|(go_at_call 181;refine(HR.out _).mono ?_;rintro e w2 ⟨rfl,hb2⟩;have HB2:=ι (HB.out.later hb2);clear hb2)|(refine a0g rfl _ _ rfl rfl (w.heap.size+1) zero32 zero32 rfl (congrArg Value.agg a0u) (by decide) (by decide) HB2.out.out ?_;intro w3 hA hB3 _;have A3:=ι hA;clear hA))
 refine a1m rfl (w.heap.size+1) _ _ rfl rfl (by decide) A3.out rfl ⟨rfl,?_⟩
 exact HB2.out.below.trans (hB3.mono (by omega))
set_option maxRecDepth 100000 in
set_option maxHeartbeats 3200000 in
theorem b6v(x:Ent)(hx:x.ok)(w:World)(hr:rightE x=true) :
  Calls Tryz.prog 151 #[aggE x] w (Rt w (.tuple #[agg (entSec x),.bool true])):=by
 obtain⟨W,hW,HB'⟩:=boxesE w x
 have HB:=ι HB'
 have HR:=ι fun w=>a6v x hx w
 have hn8:=(a6k hr).1
 obtain⟨p0,p1,t0,t1⟩:=a5l hr
 have HSP:=ι (b0u x (by omega))
 have HSL:=ι (a7m hr).1
 have n8:(x.name.size:Int)≤8:=by omega
 rw[hr] at HR
 clear HB' hx hr
 go_enter Tryz.func151,Tryz.ntmps151
 go_upto_region 1 with fail
 rw[a0u,hW]
 clear hW
 go_upto_region 3 with(first|(refine a2m rfl _ rfl w.heap.size rfl x HB.out.ent ?_)|(go_at_call 181;refine(HR.out _).mono ?_;rintro e w2 ⟨rfl,hb2⟩;have HB2:=ι (HB.out.later hb2);clear hb2))
 have hc1:=HB2.out.ent.cell1
 have hc2:=HB2.out.ent.cell2
 have hc3:=HB2.out.ent.cell3
 go_upto_region 4 with(first|(refine a0g rfl _ _ rfl rfl w2.heap.size (ent1 x 0) zero32 rfl rfl (a5d x 0) (by decide) (a1c w2) ?_;intro w3 hA hB3 hO3;have A3:=ι hA;clear hA hO3))
 have HB3:=ι (HB2.out.later ((a0b (Below.refl _ _) _).trans hB3))
 have hg:w.heap.size+1<w2.heap.size:=(Array.getElem?_eq_some_iff.1 HB2.out.out).1
 obtain⟨g,hgg⟩:∃g,w2.heap.size=g:=⟨_,rfl⟩
 rw[hgg] at hg A3
 rw[hgg]
 clear hB3 HB hc1 hc2 hc3 hgg HB2
 have hc0:=HB3.out.ent.cell0
 cases hu:x.used with
 | false =>
  rw[hu] at hc0 HSP
  rw[if_neg (by decide)] at HSP
  go_upto_region 6 with fail
  obtain⟨w4,hw4⟩:∃w4,w3=w4:=⟨_,rfl⟩
  rw[hw4]
  rw[hw4] at A3 HB3
  have A4:=A3
  have HB4:=HB3
  clear hw4 hc0 A3 HB3
  have hc2:=HB4.out.ent.cell2
  go_region_law (refine a3z rfl _ _ rfl g 16 16 16 rfl x.name rfl (ent1 x 0) A4.out (by omega) (by rw[a5d];omega) ?_;intro w5 hA hB5 hO5;have A5:=ι hA;have HB5:Hid (BoxesE w w5 x zero32):=ι ⟨(hO5 _ (by omega)).trans HB4.out.ent,(hO5 _ (by omega)).trans HB4.out.out,HB4.out.below.drew.trans (hB5.mono (by omega))⟩;clear hA hO5 hB5)
  rw[HSP.out] at A5
  go_wp2_with (first|(refine a5q rfl _ rfl g rfl _ HSL.out A5.out ?_)|(refine a0g rfl _ _ rfl rfl (w.heap.size+1) _ zero32 rfl rfl HSL.out (by decide) HB5.out.out ?_;intro w6 hA hB6 _;have A6:=ι hA;clear hA))
  refine a1m rfl (w.heap.size+1) _ _ rfl rfl HSL.out A6.out rfl ⟨rfl,?_⟩
  exact HB5.out.below.trans (hB6.mono (by omega))
 | true =>
  rw[hu] at hc0 HSP
  rw[if_pos rfl] at HSP
  have cs:=A3.out.cell (i:=0) (by rw[a5d];omega)
  have cf:w3.frozen? ⟨g,0,none⟩=false:=a0j A3.out 0
  go_upto_region 6 with fail
  have A4:Hid (At (w3.setCell ⟨g,0,none⟩ (.int .u8 1)) g (ent1 x 1)):=ι (a7x A3.out 1)
  have HB4:Hid (BoxesE w (w3.setCell ⟨g,0,none⟩ (.int .u8 1)) x zero32):=ι ⟨(Below.heap_setCell _ _ _ _ (by simp;omega)).trans HB3.out.ent,a1l HB3.out.out (by omega) _,HB3.out.below.setCell (p:=⟨g,0,none⟩) (by simp;omega) _⟩
  obtain⟨w4,hw4⟩:∃w4,w3.setCell ⟨g,0,none⟩ (.int .u8 1)=w4:=⟨_,rfl⟩
  rw[hw4]
  rw[hw4] at A4 HB4
  clear hw4 hc0 A3 HB3 cs cf
  have hc2:=HB4.out.ent.cell2
  go_region_law (refine a3z rfl _ _ rfl g 16 16 16 rfl x.name rfl (ent1 x 1) A4.out (by omega) (by rw[a5d];omega) ?_;intro w5 hA hB5 hO5;have A5:=ι hA;have HB5:Hid (BoxesE w w5 x zero32):=ι ⟨(hO5 _ (by omega)).trans HB4.out.ent,(hO5 _ (by omega)).trans HB4.out.out,HB4.out.below.drew.trans (hB5.mono (by omega))⟩;clear hA hO5 hB5)
  rw[HSP.out] at A5
  go_wp2_with (first|(refine a5q rfl _ rfl g rfl _ HSL.out A5.out ?_)|(refine a0g rfl _ _ rfl rfl (w.heap.size+1) _ zero32 rfl rfl HSL.out (by decide) HB5.out.out ?_;intro w6 hA hB6 _;have A6:=ι hA;clear hA))
  refine a1m rfl (w.heap.size+1) _ _ rfl rfl HSL.out A6.out rfl ⟨rfl,?_⟩
  exact HB5.out.below.trans (hB6.mono (by omega))
def entV(x:Ent):List Int:=if rightE x then entSec x else zero32
theorem c0j(x:Ent):Sec (entV x):=by
 unfold entV
 split
 ·exact a7m ‹_›
 ·exact a1n
theorem b7y(x:Ent)(hx:x.ok)(w:World) :
  Calls Tryz.prog 151 #[aggE x] w (Rt w (.tuple #[agg (entV x),.bool (rightE x)])):=by
 cases hr:rightE x with
 | true=>rw[entV,if_pos hr];exact b6v x hx w hr
 | false=>rw[entV,if_neg (by simp[hr])];exact b8z x hx w hr
end ly
namespace ly
set_option maxRecDepth 100000
open Go.ChangeShapes Go.WideShapes Go.ChangeAt Go.RowKit
open rows
open sec
open dsk (a0c a0j a0f a3a b7s a9f b2q a4d b0a a6b a2v)
def superSec:List Int:=[70,76,79,84]++List.replicate 28 0
def rootSec:List Int:=2::List.replicate 31 0
theorem superSec_is:Sec superSec:=⟨by decide,by decide⟩
theorem b4p:Sec rootSec:=⟨by decide,by decide⟩
theorem b7h{w:World}{ops:Array Oper}{rest:List Oper}{o:Oper}{a:Act}{Q:Exit→Act→World→Prop}(hgd:o.guard=none)(x y:Operand)(ho:o.op = .store 74 x y)(hd:o.dst=none)
  (g i:Nat) (hx:a.eval x = .pointer (some ⟨g,i * 32,none⟩)) (s:List Int) (hy:a.eval y = .agg (u8s s).toArray) (hl:Sec s) (ss:List (List Int)) (hs:Secs ss) (hi:i<ss.length) (hg:dsk.Rows w g ss)
  (h:∀w',dsk.Rows w' g (ss.set i s)→Below g w w'→wpList Tryz.prog ops Q rest a w'):wpList Tryz.prog ops Q (o::rest) a w:=by
 refine wpList_plain hgd fun K hK => ?_
 have hrun:=a4d hg hs hi hl
 unfold Oper.wp execOp
 simp only[ho,hx,hy,Instr.storeAt,Instr.sureAddr,Sem.run_bind,Sem.run_pure,Result.andThen_ok,hrun]
 exact hK (a.put o.dst undef) _ (by rw[hd];exact h _ (b2q hg) ((Below.refl g w).trans ⟨rfl,rfl,rfl,by simp[World.setRow],fun k hk=>setRow_other w g k _ (by omega)⟩))
set_option maxRecDepth 100000 in
theorem b4k(w:World):Calls Tryz.prog 65 #[] w (Rt w (agg superSec)):=by
 have A1:=ι (a1c w)
 go_enter Tryz.func65,Tryz.ntmps65
 go_upto_region 1 with fail
 go_wp2_with (first|(refine a0g rfl _ _ rfl rfl w.heap.size superSec zero32 rfl rfl superSec_is.1 (by decide) A1.out ?_;intro w4 hA hB4 _;have A4:=ι hA;clear hA))
 refine b1d rfl w.heap.size _ rfl superSec_is.1 A4.out rfl ⟨rfl,?_⟩
 exact(a0b (Below.refl _ _) _).trans hB4
def emptyImg:List (List Int):=((List.replicate 65 zero32).set 0 superSec).set 1 rootSec
theorem a4f:Secs emptyImg:=a2v (a2v (a6b 65) superSec_is 0) b4p 1
theorem b0q:emptyImg.length=65:=by simp[emptyImg]
theorem img_set:((cellsOf ((List.replicate 65 zero32).set 0 superSec)).toArray.setIfInBounds 32 (.int .u8 2))=(cellsOf emptyImg).toArray:=by
 rw[List.setIfInBounds_toArray]
 have h:∀(a b:List Int),a=b→u8s a=u8s b:=fun a b h=>by rw[h]
 have e:(cellsOf ((List.replicate 65 zero32).set 0 superSec)).set 32 (.int .u8 2)=u8s ((((List.replicate 65 zero32).set 0 superSec).flatten).set 32 2):=by
  rw[cellsOf,u8s,u8s,List.map_set]
 rw[e,cellsOf]
 exact congrArg List.toArray (h _ _ (by kernel_rfl))
theorem c0b:(cellsOf ((List.replicate 65 zero32).set 0 superSec)).toArray[32]? = some (.int .u8 0):=by kernel_rfl
set_option maxRecDepth 100000 in
theorem b3v(w:World):Calls Tryz.prog 30 #[] w fun e w'=>∃p c,e = .returned (.slice p 65 c)∧Rd w' 32 (.slice p 65 c) 65 (cellsOf emptyImg)∧Below w.heap.size w w':=by
 obtain⟨i0,hi,hz0,hz1,hz2⟩:=info_parts elem_secs.info
 have HS:=ι fun w=>b4k w
 go_enter Tryz.func30,Tryz.ntmps30
 go_upto_region 2 with(at_make;refine wpList_make_full _ rfl _ _ 22 rfl w.heap.size 74 i0 (.agg (u8s (List.replicate 32 0)).toArray) 32 Tryz.underlying22 hi hz0 hz1 .i64 .i64 _ _ 65 rfl rfl rfl rfl (by rw[hz2];omega) (by unfold maxLen;omega) (Nat.le_refl _) ?_;intro w3 ho3 hg3;rw[b0a] at ho3;have hb3:=b3r hg3;have R3:=ι (a9f ho3);clear ho3 hg3)
 have hlt:w.heap.size<w3.heap.size:=(Array.getElem?_eq_some_iff.1 R3.out).1
 go_upto_region 3 with(first|(go_at_call 65;refine(HS.out _).mono ?_;rintro e w4 ⟨rfl,hb4⟩;have R4:=ι (a3a R3.out hb4 hlt))|(refine b7h rfl _ _ rfl rfl w.heap.size 0 rfl superSec rfl superSec_is _ (a6b 65) (by simp) R4.out ?_;intro w5 hA hB5;have R5:=ι hA;have hlt5:w.heap.size<w5.heap.size:=(Array.getElem?_eq_some_iff.1 hA).1;clear hA))
 have cs:w5.cell? ⟨w.heap.size,32,none⟩=some (.int .u8 0):=a0c R5.out 32 _ c0b
 have cf:w5.frozen? ⟨w.heap.size,32,none⟩=false:=a0j R5.out 32
 go_wp2_with fail
 go_ret
 have R7:(w5.setCell ⟨w.heap.size,32,none⟩ (.int .u8 2)).heap[w.heap.size]? = some (.cells (cellsOf emptyImg).toArray 74 (0,0)):=by
  rw[a0f R5.out (.int .u8 2)]
  exact congrArg (fun a=>some (Obj.cells a 74 (0,0))) img_set
 exact⟨_,_,rfl,b7s R7 a4f (by unfold maxLen;rw[b0q];omega),(((hb3.trans (hb4.mono (by omega))).trans hB5).setCell (p:=⟨w.heap.size,32,none⟩) (Nat.le_refl _) _)⟩
end ly
namespace ly
set_option maxRecDepth 100000
open Go.ChangeShapes Go.WideShapes Go.ChangeAt Go.RowKit
open rows
open sec
theorem a1f{w:World}{p:Option Addr}{n c:Nat}{xs:List Int}(h:Rd w 1 (.slice p n c) n (u8s xs)):(convert 54 9 (.slice p n c)).run Tryz.prog w = .ok (.string (strOfNums xs)) w:=by
 rcases h with⟨p',cap',h1,rfl,hx,hp⟩|⟨b,off,cap,h1,h2,h2a,h2b,h3,h4,h5⟩
 ·cases h1
  obtain rfl:xs=[]:=by cases xs with|nil=>rfl|cons a t=>simp[u8s] at hx
  cases p with
  | none=>exact run_convert_bytes_nil w 54 5 Tryz.underlying54 Tryz.underlying5 0 c 9 Tryz.underlying9
  | some a =>
   rw[run_convert_bytes_string w 54 9 5 _ 0 c Tryz.underlying54 Tryz.underlying5 Tryz.underlying9,run_bytesToString w _ 0 c [] (by have:=run_loadCells_list (P:=Tryz.prog) w a [] (by simp);simpa using this),foldl_push_bytes]
   simp[strOfNums,ByteArray.empty,ByteArray.emptyWithCapacity]
   rfl
 ·cases h1
  have hl:xs.length=n:=by simpa [u8s] using h4
  exact run_convert_bytes_arg w 54 5 Tryz.underlying54 Tryz.underlying5 b off n c xs hl (fun i hi=>h5 i _ (by simp[u8s,List.getD,show i<xs.length by omega])) 9 Tryz.underlying9
theorem a6h{w:World}{ops:Array Oper}{o:Oper}{a:Act}{K:Act→World→Prop}{Q:Exit→Act→World→Prop}{F:Prop}(hw:Region.wanted o (yielded ops a.tmps)=true)(T U:TypeId)(x:Operand)(ho:o.op = .convert T U x)
  (u v:Value) (hx:a.eval x=u) (hv:(convert T U u).run Tryz.prog w = .ok v w) (h:K (a.put o.dst v) w):if Region.wanted o (yielded ops a.tmps)=true then Oper.wp Tryz.prog o a w K Q else F:=by
 rw[if_pos hw]
 unfold Oper.wp execOp
 simp only[ho,hx,Sem.run_bind,hv,Result.andThen_ok]
 exact h
theorem c0o:(Tryz.prog.info? 119).map (·.zero)=some (some (.agg #[.bool false,.int .i64 0,.string ByteArray.empty,.int .i64 0])):=by kernel_rfl
theorem a1y{ops:Array Oper}{o:Oper}{a:Act}{w:World}{K:Act→World→Prop}{Q:Exit→Act→World→Prop}{F:Prop}(hw:Region.wanted o (yielded ops a.tmps)=true)
  (ho:o.op = .alloc 119) (h:∀b w',w.heap.size≤b→AtE w' b ent0→Below w.heap.size w w'→K (a.put o.dst (.pointer (some ⟨b,0,none⟩))) w'):if Region.wanted o (yielded ops a.tmps)=true then Oper.wp Tryz.prog o a w K Q else F:=by
 rw[if_pos hw]
 have hz:=c0o
 have hzr:(zeroValue 119).run Tryz.prog w = .ok (.agg #[.bool false,.int .i64 0,.string ByteArray.empty,.int .i64 0]) w:=by
  cases hq:Tryz.prog.info? 119 with
  | none=>simp[hq] at hz
  | some it =>
   have h0:it.zero=some (.agg #[.bool false,.int .i64 0,.string ByteArray.empty,.int .i64 0]):=by simpa [hq] using hz
   simp[zeroValue,typeInfo,hq,h0]
 unfold Oper.wp execOp
 simp[ho,hzr,Instr.alloc,newVar,newRow,Value.cells]
 exact h _ _ (Nat.le_refl _) (heap_alloc_new _ _) (a0b (Below.refl _ _) _)
theorem a1w{w:World}{ops:Array Oper}{o:Oper}{a:Act}{K:Act→World→Prop}{Q:Exit→Act→World→Prop}{F:Prop}(hw:Region.wanted o (yielded ops a.tmps)=true)(p y:Operand)(ho:o.op = .store 119 p y)
  (g:Nat) (hp:a.eval p = .pointer (some ⟨g,0,none⟩)) (x:Ent) (hy:a.eval y=aggE x) (old:Ent) (hg:AtE w g old)
  (h:∀w',AtE w' g x→Below g w w'→(∀k,k≠g→w'.heap[k]? = w.heap[k]?)→K (a.put o.dst undef) w'):if Region.wanted o (yielded ops a.tmps)=true then Oper.wp Tryz.prog o a w K Q else F:=by
 rw[if_pos hw]
 exact wp_store_row 119 p y ho g #[.bool x.used,.int .i64 x.parent,.string x.name,.int .i64 x.target] hp hy 119 _ hg (by rw[a3t];rfl) rfl (by simp[Value.oneCell'])
  (h _ (setRow_heap w g _ _ _ _ hg) ((Below.refl g w).trans ⟨rfl,rfl,rfl,by simp[World.setRow],fun k hk=>setRow_other w g k _ (by omega)⟩) (fun k hk=>setRow_other w g k _ hk))
theorem a1o{ops:Array Oper}{rest:List Oper}{o:Oper}{a:Act}{w:World}{Q:Exit→Act→World→Prop}(hgd:o.guard=none)(p y:Operand)(ho:o.op = .store 119 p y)(hd:o.dst=none)
  (g:Nat) (x old:Ent) (hp:a.eval p = .pointer (some ⟨g,0,none⟩)) (hy:a.eval y=aggE x) (hg:AtE w g old)
  (h:∀w',AtE w' g x→Below g w w'→(∀k,k≠g→w'.heap[k]? = w.heap[k]?)→wpList Tryz.prog ops Q rest a w'):wpList Tryz.prog ops Q (o::rest) a w:=by
 refine wpList_store_row hgd 119 p y ho g #[.bool x.used,.int .i64 x.parent,.string x.name,.int .i64 x.target] hp hy 119 _ hg (by rw[a3t];rfl) rfl (by simp[Value.oneCell']) ?_
 rw[hd]
 exact h _ (setRow_heap w g _ _ _ _ hg) ((Below.refl g w).trans ⟨rfl,rfl,rfl,by simp[World.setRow],fun k hk=>setRow_other w g k _ (by omega)⟩) (fun k hk=>setRow_other w g k _ hk)
theorem a8h{fn:Func}{p q:Tmp}{R:Ending→World→Prop}{a:Act}{w:World}(h:fn.results = #[.cell p 119,.tmp q])(g:Nat)(x:Ent)(v:Value)(hp:a.tmps.getD p undef = .pointer (some ⟨g,0,none⟩))(hq:a.tmps.getD q undef=v)(hg:AtE w g x)
  (hd:a.defers=[]) (hR:R (.returned (.tuple #[aggE x,v])) w):bodyPost Tryz.prog fn R .ret a w:=by
 refine bodyPost_ret (v := .tuple #[aggE x,v]) ?_ hd hR
 have hp':a.tmps[p]?.getD undef = .pointer (some ⟨g,0,none⟩):=by simpa using hp
 have hq':a.tmps[q]?.getD undef=v:=by simpa using hq
 have hl:=run_loadVar_row (P:=Tryz.prog) w g _ 119 _ _ _ hg b0x rfl (by rw[a3t];rfl)
 simp[results,h,hp',hq',asAddr,hl]
structure BoxesT (w W:World) (s:List Int):Prop where
 sec:At W w.heap.size s
 ent:AtE W (w.heap.size+1) ent0
 below:Below w.heap.size w W
theorem boxesT(w:World)(s:List Int)(hs:Sec s):∃W,(w.alloc (.cells (u8s s).toArray 74)).alloc (.cells #[.bool false,.int .i64 0,.string { data := #[] },.int .i64 0] 119)=W∧BoxesT w W s :=
 ⟨_,rfl,(at_new w s).alloc _,by have:=a4o (w.alloc (.cells (u8s s).toArray 74)) ent0;rw[show (w.alloc (.cells (u8s s).toArray 74)).heap.size=w.heap.size+1 by simp] at this;exact this,a0b (a0b (Below.refl _ _) _) _⟩
theorem BoxesT.later{w W W':World}{s:List Int}(h:BoxesT w W s)(hb:Below W.heap.size W W'):BoxesT w W' s:=⟨h.sec.later hb,h.ent.later hb,a0a h.below hb⟩
theorem BoxesT.drew{w W:World}{s:List Int}(h:BoxesT w W s):BoxesT w W.drew s:=⟨h.sec,h.ent,h.below.drew⟩
structure Parts (w W wc:World) (s:List Int) (g:Nat) (x:Ent):Prop where
 box:BoxesT w wc s
 ent:AtE wc g x
 up:W.heap.size≤g
end ly
namespace ly
set_option maxRecDepth 100000
open Go.ChangeShapes Go.WideShapes Go.ChangeAt Go.RowKit
open rows
open sec
open dsk (a0o)
theorem b2d:Tryz.prog.underlying 5=some (.int .u8):=Tryz.underlying5
theorem a6e{z:Int}(h:0≤z∧z<256):IntKind.i64.wrap z=z:=by
 simp[IntKind.wrap,IntKind.signed,IntKind.bits]
 omega
set_option maxRecDepth 100000 in
set_option maxHeartbeats 3200000 in
theorem b1t(s:List Int)(hs:Sec s)(w:World) :
  Calls Tryz.prog 108 #[agg s] w (Rt w (.tuple #[aggE (entOfV s),.bool (entOfB s)])):=by
 obtain⟨W,hW,HB'⟩:=boxesT w s hs
 have HB:=ι HB'
 have HS:=ι hs
 have hb0:=a0v hs 0
 have hb1:=a0v hs 1
 have hb2:=a0v hs 2
 have hb3:=a0v hs 3
 have HC0:=ι fun W' (hb:Below W.drew.heap.size W.drew W')=>atD (HB'.drew.later hb).sec (i:=0) (by rw[hs.1];omega)
 have HC1:=ι fun W' (hb:Below W.drew.heap.size W.drew W')=>atD (HB'.drew.later hb).sec (i:=1) (by rw[hs.1];omega)
 have HC2:=ι fun W' (hb:Below W.drew.heap.size W.drew W')=>atD (HB'.drew.later hb).sec (i:=2) (by rw[hs.1];omega)
 have HC3:=ι fun W' (hb:Below W.drew.heap.size W.drew W')=>atD (HB'.drew.later hb).sec (i:=3) (by rw[hs.1];omega)
 have HI:=ι fun w=>b7y (entC s) (entC_ok hs) w
 have HVS:=ι (c0j (entC s))
 have HE1:Hid (entOfB s=true→entOfV s=entC s):=ι fun h=>by rw[entOfV,if_pos h]
 have HE0:Hid (entOfB s=false→entOfV s=ent0):=ι fun h=>by rw[entOfV,if_neg (by simp[h])]
 have HOB:Hid (entOfB s=(rightE (entC s) && decide (entSec (entC s)=s))):=ι rfl
 have HV1:Hid (rightE (entC s)=true→entV (entC s)=entSec (entC s)):=ι fun h=>by rw[entV,if_pos h]
 have HE:Hid ((⟨s.getD 0 0 == 1,s.getD 1 0,strOfNums (cutOf s 16 (s.getD 3 0)),s.getD 2 0⟩:Ent)=entC s):=ι rfl
 have HCU:=ι fun W'=>cut_is s 16 (s.getD 3 0) W' hs (by decide) (a2x hb3)
 clear HB' hs
 generalize s.getD 0 0=k0 at hb0 HC0 HE
 generalize s.getD 1 0=k1 at hb1 HC1 HE
 generalize s.getD 2 0=k2 at hb2 HC2 HE
 generalize s.getD 3 0=k3 at hb3 HC3 HE HCU
 obtain⟨b00,b01⟩:=hb0
 obtain⟨b10,b11⟩:=hb1
 obtain⟨b20,b21⟩:=hb2
 obtain⟨b30,b31⟩:=hb3
 have W1:Hid (IntKind.i64.wrap k1=k1):=ι (a6e ⟨b10,b11⟩)
 have W2:Hid (IntKind.i64.wrap k2=k2):=ι (a6e ⟨b20,b21⟩)
 have W3:Hid (IntKind.i64.wrap k3=k3):=ι (a6e ⟨b30,b31⟩)
 go_enter Tryz.func108,Tryz.ntmps108
 go_upto_region 1 with fail
 clear hW
 go_cut [4] from 7 (fun ptr wc=>∃g,ptr = .pointer (some ⟨g,0,none⟩)∧Parts w W wc s g (entC s))
 case first =>
  have h0:=Below.refl W.drew.heap.size W.drew
  refine wp_region_held_drew (S:=ext W.drew) (by kernel_rfl) (Below.refl _ _) (fun hH0 => ?_)
  refine tk 0 rfl ?_
  refine tkv 1 rfl (a0o (by rfl) 5 _ b2d rfl _ rfl w.heap.size 0 rfl _ (fun w' hw=>HC0.out w' hw)) ?_
  refine tk 2 rfl ?_
  refine tk 3 rfl ?_
  refine tkv 4 rfl (a0o (by rfl) 5 _ b2d rfl _ rfl w.heap.size 1 rfl _ (fun w' hw=>HC1.out w' hw)) ?_
  refine wpAnyH_take (i:=5) (oi:={ dst:=some 12,op:=Op.convert 5 3 (Operand.tmp 11),type:=3,pos := "layout.go:114", after := #[{ on:=4,ground:=Ground.data }],guard:=none }) (v := ?_) rfl (by kernel_rfl) (by kernel_rfl) (by kernel_rfl) (fun _ _ _ h=>h) (Or.inl ⟨by rfl,?_⟩) (by assumption) ?_
  rotate_left
  ·(intro w' hSw;have e:=W1.out;go_simp;try with_reducible rfl)
  try simp only[Act.put,List.setIfInBounds_toArray,List.set_cons_zero,List.set_cons_succ]
  refine tk 6 rfl ?_
  refine tkv 7 rfl (a0o (by rfl) 5 _ b2d rfl _ rfl w.heap.size 2 rfl _ (fun w' hw=>HC2.out w' hw)) ?_
  refine wpAnyH_take (i:=8) (oi:={ dst:=some 15,op:=Op.convert 5 3 (Operand.tmp 14),type:=3,pos := "layout.go:114", after := #[{ on:=7,ground:=Ground.data }],guard:=none }) (v := ?_) rfl (by kernel_rfl) (by kernel_rfl) (by kernel_rfl) (fun _ _ _ h=>h) (Or.inl ⟨by rfl,?_⟩) (by assumption) ?_
  rotate_left
  ·(intro w' hSw;have e:=W2.out;go_simp;try with_reducible rfl)
  try simp only[Act.put,List.setIfInBounds_toArray,List.set_cons_zero,List.set_cons_succ]
  refine tkv 9 rfl (b2y (by rfl) _ rfl w.heap.size 0 rfl s HS.out.1 (fun w' hw=>(HB.out.drew.later hw).sec.range)) ?_
  refine tk 10 rfl ?_
  refine tkv 11 rfl (a0o (by rfl) 5 _ b2d rfl _ rfl w.heap.size 3 rfl _ (fun w' hw=>HC3.out w' hw)) ?_
  refine wpAnyH_take (i:=12) (oi:={ dst:=some 19,op:=Op.convert 5 3 (Operand.tmp 18),type:=3,pos := "layout.go:114", after := #[{ on:=11,ground:=Ground.data }],guard:=none }) (v := ?_) rfl (by kernel_rfl) (by kernel_rfl) (by kernel_rfl) (fun _ _ _ h=>h) (Or.inl ⟨by rfl,?_⟩) (by assumption) ?_
  rotate_left
  ·(intro w' hSw;have e:=W3.out;go_simp;try with_reducible rfl)
  try simp only[Act.put,List.setIfInBounds_toArray,List.set_cons_zero,List.set_cons_succ]
  refine wpAnyH_ready (rs:=[13,16]) (by kernel_rfl) (by simp) ?_
  refine AllReadyH.cons (o:={ dst:=some 20,op:=Op.call { callee:=Callee.value (Operand.func 150),args := #[Operand.tmp 16,Operand.const (Value.int IntKind.i64 16),Operand.tmp 19],argTypes := #[74,3,3] },type:=54,pos := "layout.go:118", after := #[{ on:=9,ground:=Ground.data },{ on:=12,ground:=Ground.data }],guard:=none }) rfl (fun K hK => ?_) (AllReadyH.cons (o:={ dst:=some 4,op:=Op.alloc 119,type:=0,pos := "layout.go:114", after := #[],guard:=none }) rfl (fun K hK => ?_) AllReadyH.nil)
  ·go_simp
   with_reducible refine(HCU.out _).mono ?_
   rintro e v1 ⟨p1,c1,rfl,hr1,hb1⟩
   have R13:=ι hr1
   have B13:=ι hb1
   have h1:=a0a h0 hb1
   clear hr1
   dsimp only
   refine hK.out _ _ ?_ (fun hHeld => ?_)
   ·exact h1
   clear hK K
   try simp only[Act.put,List.setIfInBounds_toArray,List.set_cons_zero,List.set_cons_succ]
   refine wpAnyH_ready (rs:=[14,16]) (by kernel_rfl) (by simp) ?_
   refine AllReadyH.cons (o:={ dst:=some 21,op:=Op.convert 54 9 (Operand.tmp 20),type:=9,pos := "layout.go:114", after := #[{ on:=13,ground:=Ground.data }],guard:=none }) rfl (fun K hK => ?_) (AllReadyH.cons (o:={ dst:=some 4,op:=Op.alloc 119,type:=0,pos := "layout.go:114", after := #[],guard:=none }) rfl (fun K hK => ?_) AllReadyH.nil)
   ·refine a6h (by rfl) 54 9 _ rfl _ (.string (strOfNums (cutOf s 16 k3))) rfl (a1f (by first|exact R13.out|exact R13.out.later B16.out)) ?_
    have h2:=h1
    refine hK.out _ _ ?_ (fun hHeld => ?_)
    ·exact h2
    clear hK K
    try simp only[Act.put,List.setIfInBounds_toArray,List.set_cons_zero,List.set_cons_succ]
    refine tk 15 rfl ?_
    refine rd 16 rfl (fun K hK => ?_)
    refine a1y (by rfl) rfl ?_
    intro b16 v3 hv3 ha3 hb3
    have A16:=ι ha3
    have B16:=ι hb3
    have V16:Hid (W.heap.size≤b16):=ι (Nat.le_trans (h2).size hv3)
    have h3:=a0a h2 hb3
    clear ha3
    refine hK.out _ _ ?_ (fun hHeld => ?_)
    ·exact h3
    clear hK K
    try simp only[Act.put,List.setIfInBounds_toArray,List.set_cons_zero,List.set_cons_succ]
    refine rd 17 rfl (fun K hK => ?_)
    refine a1w (by rfl) _ _ rfl b16 rfl (entC s) (by rw[← HE.out];rfl) ent0 (by first|exact A16.out|exact A16.out.later B13.out) ?_
    intro v4 ha4 hb4 ho4
    have A17:=ι ha4
    have h4:=h3.trans (hb4.mono V16.out)
    refine hK.out _ _ ?_ (fun hHeld => ?_)
    ·exact h4
    clear hK K
    try simp only[Act.put,List.setIfInBounds_toArray,List.set_cons_zero,List.set_cons_succ]
    refine wpAnyH_done (by kernel_rfl) ?_ _
    go_wp2_with fail
    go_meet
    case rel=>exact⟨_,rfl,HB.out.drew.later h4,A17.out,V16.out⟩
   ·refine a1y (by rfl) rfl ?_
    intro b16 v5 hv5 ha5 hb5
    have A16:=ι ha5
    have B16:=ι hb5
    have V16:Hid (W.heap.size≤b16):=ι (Nat.le_trans (h1).size hv5)
    have h5:=a0a h1 hb5
    clear ha5
    refine hK.out _ _ ?_ (fun hHeld => ?_)
    ·exact h5
    clear hK K
    try simp only[Act.put,List.setIfInBounds_toArray,List.set_cons_zero,List.set_cons_succ]
    refine rd 14 rfl (fun K hK => ?_)
    refine a6h (by rfl) 54 9 _ rfl _ (.string (strOfNums (cutOf s 16 k3))) rfl (a1f (by first|exact R13.out|exact R13.out.later B16.out)) ?_
    have h6:=h5
    refine hK.out _ _ ?_ (fun hHeld => ?_)
    ·exact h6
    clear hK K
    try simp only[Act.put,List.setIfInBounds_toArray,List.set_cons_zero,List.set_cons_succ]
    refine tk 15 rfl ?_
    refine rd 17 rfl (fun K hK => ?_)
    refine a1w (by rfl) _ _ rfl b16 rfl (entC s) (by rw[← HE.out];rfl) ent0 (by first|exact A16.out|exact A16.out.later B13.out) ?_
    intro v7 ha7 hb7 ho7
    have A17:=ι ha7
    have h7:=h6.trans (hb7.mono V16.out)
    refine hK.out _ _ ?_ (fun hHeld => ?_)
    ·exact h7
    clear hK K
    try simp only[Act.put,List.setIfInBounds_toArray,List.set_cons_zero,List.set_cons_succ]
    refine wpAnyH_done (by kernel_rfl) ?_ _
    go_wp2_with fail
    go_meet
    case rel=>exact⟨_,rfl,HB.out.drew.later h7,A17.out,V16.out⟩
  ·refine a1y (by rfl) rfl ?_
   intro b16 v8 hv8 ha8 hb8
   have A16:=ι ha8
   have B16:=ι hb8
   have V16:Hid (W.heap.size≤b16):=ι (Nat.le_trans (h0).size hv8)
   have h8:=a0a h0 hb8
   clear ha8
   refine hK.out _ _ ?_ (fun hHeld => ?_)
   ·exact h8
   clear hK K
   try simp only[Act.put,List.setIfInBounds_toArray,List.set_cons_zero,List.set_cons_succ]
   refine rd 13 rfl (fun K hK => ?_)
   go_simp
   with_reducible refine(HCU.out _).mono ?_
   rintro e v9 ⟨p9,c9,rfl,hr9,hb9⟩
   have R13:=ι hr9
   have B13:=ι hb9
   have h9:=a0a h8 hb9
   clear hr9
   dsimp only
   refine hK.out _ _ ?_ (fun hHeld => ?_)
   ·exact h9
   clear hK K
   try simp only[Act.put,List.setIfInBounds_toArray,List.set_cons_zero,List.set_cons_succ]
   refine rd 14 rfl (fun K hK => ?_)
   refine a6h (by rfl) 54 9 _ rfl _ (.string (strOfNums (cutOf s 16 k3))) rfl (a1f (by first|exact R13.out|exact R13.out.later B16.out)) ?_
   have h10:=h9
   refine hK.out _ _ ?_ (fun hHeld => ?_)
   ·exact h10
   clear hK K
   try simp only[Act.put,List.setIfInBounds_toArray,List.set_cons_zero,List.set_cons_succ]
   refine tk 15 rfl ?_
   refine rd 17 rfl (fun K hK => ?_)
   refine a1w (by rfl) _ _ rfl b16 rfl (entC s) (by rw[← HE.out];rfl) ent0 (by first|exact A16.out|exact A16.out.later B13.out) ?_
   intro v11 ha11 hb11 ho11
   have A17:=ι ha11
   have h11:=h10.trans (hb11.mono V16.out)
   refine hK.out _ _ ?_ (fun hHeld => ?_)
   ·exact h11
   clear hK K
   try simp only[Act.put,List.setIfInBounds_toArray,List.set_cons_zero,List.set_cons_succ]
   refine wpAnyH_done (by kernel_rfl) ?_ _
   go_wp2_with fail
   go_meet
   case rel=>exact⟨_,rfl,HB.out.drew.later h11,A17.out,V16.out⟩
 case rest =>
  obtain⟨g,rfl,hpt⟩:=hcut
  have HP:=ι hpt
  have hg:w.heap.size+1<g:=by
   have h1:=(Array.getElem?_eq_some_iff.1 HB.out.ent).1
   have h2:=hpt.up
   omega
  clear hpt
  generalize hr:rightE (entC s)=r at HI HOB HV1
  generalize entV (entC s)=v at HI HVS HV1
  cases r with
  | false =>
   have HN:Hid (entOfB s=false):=ι (by rw[HOB.out];rfl)
   have HZ:Hid (entOfV s=ent0):=ι (HE0.out HN.out)
   go_wp2_with (first|(refine a2m rfl _ rfl g rfl _ HP.out.ent ?_)|(go_at_call 151;refine(HI.out _).mono ?_;rintro e w4 ⟨rfl,hb4⟩;have HB4:=ι (HP.out.box.later hb4);clear hb4)|(refine a0g rfl _ _ rfl rfl w4.heap.size v zero32 rfl rfl HVS.out.1 (by decide) (a1c w4) ?_;intro w5 hA hB5 hO5;have A5:=ι hA;have HB5:=ι (HB4.out.later ((a0b (Below.refl _ _) _).trans hB5));clear hA hO5 hB5)|(refine a1o rfl _ _ rfl rfl (w.heap.size+1) ent0 ent0 rfl rfl HB5.out.ent ?_;intro w6 hA hB6 _;have A6:=ι hA;clear hA))
   refine a8h rfl (w.heap.size+1) _ _ rfl rfl A6.out rfl ⟨by rw[HZ.out,HN.out];rfl,?_⟩
   exact HB5.out.below.trans (hB6.mono (by omega))
  | true =>
   have e:=HV1.out rfl
   have hgs:=a9j
   generalize hd:decide (entSec (entC s)=s)=d at HOB
   have hq:∀w,(Op.equalIn 10000 74 (agg s) (agg v)).run Tryz.prog w = .ok d w:=fun w=>(a5j w HS.out HVS.out).trans (by rw[← hd,e];congr 1;rw[Bool.eq_iff_iff];simp[eq_comm])
   have hq2:∀w,(Op.equalIn 10000 74 (agg v) (agg s)).run Tryz.prog w = .ok d w:=fun w=>(a5j w HVS.out HS.out).trans (by rw[← hd,e])
   clear e hd
   cases d with
   | false =>
    have HN:Hid (entOfB s=false):=ι (by rw[HOB.out];rfl)
    have HZ:Hid (entOfV s=ent0):=ι (HE0.out HN.out)
    go_wp2_with (first|(refine a2m rfl _ rfl g rfl _ HP.out.ent ?_)|(go_at_call 151;refine(HI.out _).mono ?_;rintro e w4 ⟨rfl,hb4⟩;have HB4:=ι (HP.out.box.later hb4);clear hb4)|(refine a0g rfl _ _ rfl rfl w4.heap.size v zero32 rfl rfl HVS.out.1 (by decide) (a1c w4) ?_;intro w5 hA hB5 hO5;have A5:=ι hA;have HB5:=ι (HB4.out.later ((a0b (Below.refl _ _) _).trans hB5));clear hA hO5 hB5)|(refine a1b ?_ _ rfl w.heap.size rfl s HS.out.1 HB5.out.sec ?_;· rfl)|(refine a1b ?_ _ rfl w4.heap.size rfl v HVS.out.1 A5.out ?_;· rfl)|(refine a1o rfl _ _ rfl rfl (w.heap.size+1) ent0 ent0 rfl rfl HB5.out.ent ?_;intro w6 hA hB6 _;have A6:=ι hA;clear hA))
    refine a8h rfl (w.heap.size+1) _ _ rfl rfl A6.out rfl ⟨by rw[HZ.out,HN.out];rfl,?_⟩
    exact HB5.out.below.trans (hB6.mono (by omega))
   | true =>
    have HN:Hid (entOfB s=true):=ι (by rw[HOB.out];rfl)
    have HZ:Hid (entOfV s=(entC s)):=ι (HE1.out HN.out)
    go_wp2_with (first|(refine a2m rfl _ rfl g rfl _ HP.out.ent ?_)|(go_at_call 151;refine(HI.out _).mono ?_;rintro e w4 ⟨rfl,hb4⟩;have HB4:=ι (HP.out.box.later hb4);have A4:=ι (HP.out.ent.later hb4);clear hb4)|(refine a0g rfl _ _ rfl rfl w4.heap.size v zero32 rfl rfl HVS.out.1 (by decide) (a1c w4) ?_;intro w5 hA hB5 hO5;have A5:=ι hA;have HB5:=ι (HB4.out.later ((a0b (Below.refl _ _) _).trans hB5));have A45:=ι (A4.out.later ((a0b (Below.refl _ _) _).trans hB5));clear hA hO5 hB5)|(refine a1b ?_ _ rfl w.heap.size rfl s HS.out.1 HB5.out.sec ?_;· rfl)|(refine a1b ?_ _ rfl w4.heap.size rfl v HVS.out.1 A5.out ?_;· rfl)|(refine a2m rfl _ rfl g rfl _ A45.out ?_)|(refine a1o rfl _ _ rfl rfl (w.heap.size+1) (entC s) ent0 rfl rfl HB5.out.ent ?_;intro w6 hA hB6 _;have A6:=ι hA;clear hA))
    refine a8h rfl (w.heap.size+1) _ _ rfl rfl A6.out rfl ⟨by rw[HZ.out,HN.out];rfl,?_⟩
    exact HB5.out.below.trans (hB6.mono (by omega))
end ly
namespace ly
set_option maxRecDepth 100000
open Go.ChangeShapes Go.WideShapes Go.ChangeAt Go.RowKit
open rows
open sec
section
variable {H:Type} {enc:TypeId×Value→H} {W:World} {base:Nat} {spare:Nat→Bool} {held:Bool}
end
theorem a8z(w:World)(xs:Array Value)(i:Nat)(v:Value)(h:xs[i]? = some v):(part 4 xs i).run Tryz.prog w = .ok v w:=by
 simp[part,isAgg,run_underlying Tryz.underlying4,h]
theorem a5c(w:World)(xs:Array Value)(i:Nat)(v:Value)(h:xs[i]? = some v):(part 9 xs i).run Tryz.prog w = .ok v w:=by
 simp[part,isAgg,run_underlying Tryz.underlying9,h]
end ly
end Go.Proofs.YtjedjkjhodgidaaGreatDoor
