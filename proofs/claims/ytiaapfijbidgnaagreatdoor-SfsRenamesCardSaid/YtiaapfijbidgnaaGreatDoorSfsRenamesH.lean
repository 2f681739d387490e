/- What SfsRenames wants, part 8. -/
import Derived.Test.YtiaapfijbidgnaaGreatDoorSfsRenamesB
import Derived.Test.YtiaapfijbidgnaaGreatDoorSfsRenamesG
import Derived.DeepKeys5
import Derived.DeepKeys3
set_option linter.unusedVariables false
set_option linter.unusedSimpArgs false
namespace Go.Proofs.YtiaapfijbidgnaaGreatDoor
namespace dsk
set_option maxRecDepth 100000
open Go.ChangeShapes Go.WideShapes Go.ChangeAt Go.RowKit
open rows
open sec
open Go.Maps
theorem laidOutD:laidOutB Tryz.prog=true:=by kernel_rfl
theorem d2o:(match Tryz.prog.underlying 97 with|some (.array _ _)|some (.struct _)=>true|_=>false)=true:=by kernel_rfl
theorem b1i:Tryz.prog.keyType 97=true:=by kernel_rfl
theorem key_tag:Keyed Tryz.prog 97:=Keyed.of_law (deep_law_gate laidOutD (of_decide_eq_true (by kernel_rfl)) (of_decide_eq_true (by kernel_rfl)) b1i d2o)
def tagV(k i:Int):Value := .agg #[.int .i64 k,.int .i64 i]
def tagL(k i:Int):Lit := .string (keyBytes [.int .i64 k,.int .i64 i])
theorem c5p:∃m,Tryz.prog.types.size=m+1:=⟨Tryz.prog.types.size-1,of_decide_eq_true (by kernel_rfl)⟩
theorem c9p:(Tryz.prog.fieldsOf 97).all (·.name != "_")=true:=by kernel_rfl
theorem c5s{fs:List Field}{a b c d:Nat}(h:fs.map (fun f=>(f.type,f.offset))=[(a,b),(c,d)]):∃f0 f1,fs=[f0,f1]∧f0.type=a∧f0.offset=b∧f1.type=c∧f1.offset=d:=by
 match fs,h with
 | [f0,f1],h=>simp at h;exact⟨f0,f1,rfl,h.1.1,h.1.2,h.2.1,h.2.2⟩
theorem d0o{k i:Int}(hk:wf64 k)(hi:wf64 i):keyOf Tryz.prog 97 (tagV k i)=some (.string (keyBytes [.int .i64 k,.int .i64 i])):=by
 obtain⟨m,hm⟩:=c5p
 obtain⟨f0,f1,hfs,h0,h1,h2,h3⟩:=c5s c0u
 have hft:(tagV k i).formed Tryz.prog 97=true:=by simp[Value.formed,tagV,b5p,cellsTag]
 have hwk:(Lit.int .i64 k).wf=true:=hk
 have hwi:(Lit.int .i64 i).wf=true:=hi
 unfold keyOf
 simp only[b5p]
 rw[if_pos (by rw[b1i,hft];rfl),hm]
 unfold Program.keyLits
 simp only[b5p,Value.cells,tagV]
 rw[if_pos ⟨by rw[cellsTag];rfl,c9p⟩,hfs,List.mapM_cons,List.mapM_cons,List.mapM_nil,h0,h1,h2,h3,cellsInt]
 simp[Program.keyLits,a3m,hwk,hwi]
theorem a8u{k i:Int}(hk:wf64 k)(hi:wf64 i):keyOf Tryz.prog 97 (tagV k i)=some (tagL k i):=d0o hk hi
theorem d3p{k i k' i':Int}(hk:wf64 k)(hi:wf64 i)(hk':wf64 k')(hi':wf64 i')(h:tagL k i=tagL k' i'):k=k'∧i=i':=by
 have h1:=a8u hk hi
 have h2:=a8u hk' hi'
 rw[h] at h1
 have:=key_tag.inj h1 h2
 simp[tagV] at this
 exact this
theorem a9q:Tryz.prog.underlying 254=some (.map 97 200):=by kernel_rfl
def Wanted(w:World)(b:Nat)(ts:List (Int×Int)):Prop:=∃n,∃D:DataW Unit,n≤ts.length∧w.ownsMap Tryz.prog 97 unitElem b n D∧∀k i:Int,wf64 k→wf64 i→Maps.has D (tagL k i)=decide ((k,i)∈ts)
theorem a5n{S:Nat→Prop}{w w':World}{b:Nat}{ts:List (Int×Int)}(h:Wanted w b ts)(hb:S b)(k:Keeps S w w'):Wanted w' b ts:=by
 obtain⟨n,D,h1,h2,h3⟩:=h
 have hlt:=h2.lt
 obtain⟨es,clock,he,r⟩:=h2
 exact⟨n,D,h1,⟨es,clock,(k.2 b hlt hb).trans he,r⟩,h3⟩
theorem Wanted.lt{w:World}{b:Nat}{ts:List (Int×Int)}(h:Wanted w b ts):b<w.heap.size:=by
 obtain⟨n,D,h1,h2,h3⟩:=h
 exact h2.lt
def madeC(ts:List (Int×Int))(last:Int)(x:Wr):Bool:=hasT ts x || decide (x.ep<last)
theorem b7q{mk mk':Wr→Bool}(ws:List Wr)(h:∀x∈ws,mk x=mk' x)(i:Nat)(x:Wr)(hx:x∈ws):staysB mk ws i x=staysB mk' ws i x:=by
 unfold staysB
 have e:(ws.drop (i+1)).any (fun y=>mk y && y.pos == x.pos)=(ws.drop (i+1)).any (fun y=>mk' y && y.pos == x.pos):=by
  rw[Bool.eq_iff_iff,List.any_eq_true,List.any_eq_true]
  constructor
  ·rintro⟨y,hy,h1⟩;exact⟨y,hy,by rw[← h y (List.mem_of_mem_drop hy)];exact h1⟩
  ·rintro⟨y,hy,h1⟩;exact⟨y,hy,by rw[h y (List.mem_of_mem_drop hy)];exact h1⟩
 rw[e,h x hx]
theorem a7i{mk mk':Wr→Bool}(ws:List Wr)(h:∀x∈ws,mk x=mk' x):∀j,j≤ws.length→leftUpto mk ws j=leftUpto mk' ws j
 | 0,_=>by simp[leftUpto]
 | j+1,hj=>by
  have hjl:j<ws.length:=by omega
  rw[a5q mk ws j hjl,a5q mk' ws j hjl,a7i ws h j (by omega),b7q ws h j _ (List.getElem_mem hjl)]
theorem b2v{mk mk':Wr→Bool}:∀(ws:List Wr) (safe:List (List Int)),(∀x∈ws,mk x=mk' x)→outOf mk ws safe=outOf mk' ws safe
 | [],_,_=>rfl
 | x::ws,safe,h=>by
  show outOf mk ws (outStep mk safe x)=outOf mk' ws (outStep mk' safe x)
  rw[show outStep mk safe x=outStep mk' safe x by unfold outStep;rw[h x (List.mem_cons_self ..)]]
  exact b2v ws _ fun y hy=>h y (List.mem_cons_of_mem _ hy)
end dsk
namespace dsk
open Go.ChangeShapes Go.WideShapes Go.ChangeAt Go.RowKit
open rows
open sec
open Go.Maps
theorem a6y{ops:Array Oper}{rest:List Oper}{o:Oper}{a:Act}{w:World}{Q:Exit→Act→World→Prop}(hgd:o.guard=none)(x y:Operand)(ho:o.op = .store 99 x y)(hd:o.dst=none)
  (g:Nat) (z old:Wr) (hx:a.eval x = .pointer (some ⟨g,0,none⟩)) (hy:a.eval y = .agg z.c.toArray) (hs:Sec z.s) (hold:Sec old.s) (hg:AtW w g old)
  (h:∀w',AtW w' g z→Below g w w'→wpList Tryz.prog ops Q rest a w'):wpList Tryz.prog ops Q (o::rest) a w:=by
 refine wpList_store_row hgd 99 x y ho g z.c.toArray hx hy 99 _ hg (by rw[a7n];simp[Wr.c_len hs]) (by simp[Wr.c_len hs,Wr.c_len hold]) (by simp only[List.all_toArray];exact List.all_eq_true.2 (a4u z)) ?_
 rw[hd]
 exact h _ (setRow_heap w g _ _ _ _ hg) ((Below.refl g w).trans ⟨rfl,rfl,rfl,by simp[World.setRow],fun k hk=>setRow_other w g k _ (by omega)⟩)
theorem a9k(w:World):AtW (w.alloc (.cells (w0.c).toArray 99)) w.heap.size w0:=heap_alloc_new _ _
theorem AtW.parts{w:World}{g:Nat}{x:Wr}(h:AtW w g x)(hs:Sec x.s):w.cell? ⟨g,0,none⟩=some (.int .i64 x.pos)∧w.rangeAt g 1 (u8s x.s)∧w.cell? ⟨g,33,none⟩=some (.int .i64 x.kind)∧w.cell? ⟨g,34,none⟩=some (.int .i64 x.id)∧w.cell? ⟨g,35,none⟩=some (.int .i64 x.ep):=by
 have:=b6d hs h.range
 simpa using this
theorem AtW.later{w w':World}{g:Nat}{x:Wr}(h:AtW w g x)(hb:Below w.heap.size w w'):AtW w' g x:=a0w h hb (Array.getElem?_eq_some_iff.1 h).1
theorem b2i{w:World}{b:Nat}{ts:List (Int×Int)}(h:Wanted w b ts){k i:Int}(hk:wf64 k)(hi:wf64 i) :
  (Instr.lookup 254 (.map (some b)) (.agg #[.int .i64 k,.int .i64 i]) true).run Tryz.prog w = .ok (.tuple #[.agg #[],.bool (decide ((k,i)∈ts))]) w:=by
 obtain⟨n,D,hn,ho,hh⟩:=h
 obtain⟨u,ps,hr,hu⟩:=ho.look_ok key_tag a9q (b1u w) (unitElem_mk) (a8u hk hi)
 obtain⟨rfl,_⟩:=unitElem_inv hu
 rw[hh k i hk hi] at hr
 exact hr
end dsk
namespace dsk
set_option maxRecDepth 100000
open Go.ChangeShapes Go.WideShapes Go.ChangeAt Go.RowKit
open rows
open sec
open Go.Maps
end dsk
namespace dsk
open Go.ChangeShapes Go.WideShapes Go.ChangeAt Go.RowKit
open rows
open sec
open Go.Maps
theorem b6m{ws:List Wr}(h:∀x∈ws,Sec x.s):(wrsC ws).length=ws.length * 36:=a6j Wr.c 36 ws fun x hx=>Wr.c_len (h x hx)
theorem b6z(ls:List Wr)(x:Wr):wrsC (ls++[x])=wrsC ls++x.c:=by simp[wrsC]
end dsk
namespace dsk
open Go.ChangeShapes Go.WideShapes Go.ChangeAt Go.RowKit
open rows
open sec
open Go.Maps
theorem b3c{ts:List (Int×Int)}{j:Nat}(h:j<ts.length)(t:Int×Int):(t∈ts.take (j+1))↔(t∈ts.take j∨t=ts[j]):=by
 rw[List.take_succ_eq_append_getElem h,List.mem_append,List.mem_singleton]
theorem d1g(k i:Int):WideAt.IsKeyLit (tagL k i):=trivial
theorem b9t{w w':World}{b j:Nat}{ts:List (Int×Int)}{D:DataW Unit}{k i:Int}(hj:j<ts.length)(hx:ts[j]=(k,i))(hk:wf64 k)(hi:wf64 i)(hD:w.ownsMap Tryz.prog 97 unitElem b j D)(hh:∀k i:Int,wf64 k→wf64 i→Maps.has D (tagL k i)=decide ((k,i)∈ts.take j))
  (h:w'.ownsMap Tryz.prog 97 unitElem b (j+1) (D.put (tagL k i) (.agg []))):∃D:DataW Unit,w'.ownsMap Tryz.prog 97 unitElem b (j+1) D∧∀k i:Int,wf64 k→wf64 i→Maps.has D (tagL k i)=decide ((k,i)∈ts.take (j+1)):=by
 refine⟨_,h,fun k' i' hk' hi' => ?_⟩
 have h1:=b3c hj (k',i')
 rw[hx] at h1
 by_cases e:(k',i')=(k,i)
 ·cases e
  rw[Maps.has_put_same hD.isMap (d1g _ _),decide_eq_true (h1.2 (Or.inr rfl))]
 ·rw[Maps.has_put_other (fun e2=>e (by have:=d3p hk' hi' hk hi e2;rw[this.1,this.2])),hh k' i' hk' hi']
  simp[h1,e]
end dsk
namespace dsk
set_option maxRecDepth 100000
open Go.ChangeShapes Go.WideShapes Go.ChangeAt Go.RowKit
open rows
open sec
open Go.Maps
set_option maxHeartbeats 1600000 in
theorem a8a(w:World)(p:Option Addr)(n c:Nat)(ss:List (List Int))(hs:Secs ss)(h:Rd w 32 (.slice p n c) n (cellsOf ss))(h1:1≤n)(h2:n≤65):Calls Tryz.prog 9 #[.slice p n c] w fun e w'=>∃ad,e = .returned (.tuple #[.pointer (some ad),.int .i64 0])∧CA w' (fun b=>w.heap.size≤b∧b<w'.heap.size) (.pointer (some ad)) (st0 ss)∧Below w.heap.size w w':=by
 have HP:=ι (fun w=>cpossible (n:Int) w (WalkArith.wf_i64 (by omega)))
 rw[decide_eq_true (show 1≤(n:Int)∧(n:Int)≤65 by omega)] at HP
 have hsl:ss.length=n:=by have:=h.cells;rw[a0t hs] at this;omega
 have HSL:=ι hsl
 have HS1:Hid (∀u∈cellsOf ss,u.oneCell'=true):=ι (by rw[a2v];intro u hu;obtain⟨l,hl,hul⟩:=List.mem_flatten.1 hu;obtain⟨x,_,rfl⟩:=List.mem_map.1 hl;exact a1q .u8 x u hul)
 have HC1:=ι (a7e p n c (cellsOf ss) w h HS1.out (by omega))
 have H:=ι h
 have hni:(n:Int)≤65:=by omega
 clear h hs hsl
 go_enter Tryz.func9,Tryz.ntmps9
 go_wp2_with (go_at_call 56;refine(HP.out w).mono ?_;rintro e w0 ⟨rfl,rfl⟩)
 refine HC1.out.mono ?_
 rintro e w1 ⟨p1,c1,rfl,ho1,hb1⟩
 have HO1:=ι ho1
 have HB1:=ι hb1
 have HC2:=ι (a7e p n c (cellsOf ss) w1 (H.out.later hb1) HS1.out (by omega))
 clear ho1 hb1
 go_wp2_with (go_at_call 57;refine HC2.out.mono ?_;rintro e w2 ⟨p2,c2,rfl,ho2,hb2⟩;have HO2:=ι ho2;have HB2:=ι hb2;clear ho2 hb2)
 have hs1:=HB1.out.size
 have hs2:=HB2.out.size
 have hB:Below w.heap.size w w2:=HB1.out.trans (HB2.out.mono hs1)
 have hsz:=HSL.out
 have hfin:CodeAt (w2.alloc (.cells #[.pointer (some ⟨w2.heap.size,0,none⟩),.slice p1 n c1,.slice none 0 0,.slice p2 n c2,.int .i64 0,.slice none 0 0,.int .i64 0,.map none] 104)) (fun b=>w.heap.size≤b∧b<w2.heap.size+1) (fun b=>if b<w1.heap.size then 1 else if b<w2.heap.size then 3 else 0) w2.heap.size (st0 ss) (.slice p1 n c1) (.slice none 0 0) (.slice p2 n c2) (.slice none 0 0) (.map none):=by
  refine⟨heap_alloc_new _ _,⟨⟨by omega,by omega⟩,by dsimp only;rw[if_neg (by omega),if_neg (by omega)]⟩,?_,fun k hk => ?_,a2q _ _ _ _,c2o _,?_,fun k hk => ?_,⟨[],rfl,a2q _ _ _ _,fun i hi=>absurd hi (Nat.not_lt_zero _)⟩,c2o _,Or.inl ⟨rfl,rfl⟩,fun x hx=>by cases hx⟩
  ·show Own _ 0 _ 32 _ ss.length (cellsOf ss)
   rw[hsz]
   exact a0n (own_base HO1.out (Nat.zero_le _)) (a0b HB2.out (a0a (Below.refl _ _) _))
  ·have h:=a2w HO1.out hk
   exact⟨⟨h.1,by omega⟩,if_pos h.2⟩
  ·show Own _ 0 _ 32 _ ss.length (cellsOf ss)
   rw[hsz]
   exact a0n (own_base HO2.out (Nat.zero_le _)) (a0a (Below.refl _ _) _)
  ·have h:=a2w HO2.out hk
   exact⟨⟨by omega,by omega⟩,by dsimp only;rw[if_neg (by omega),if_pos h.2]⟩
 go_ret2
 exact⟨_,rfl,⟨_,w2.heap.size,_,_,_,_,_,rfl,hfin.wider (fun b hb=>⟨hb.1,by rw[size_alloc];exact hb.2⟩) (fun _ _=>rfl)⟩,a0a hB _⟩
theorem c3d(w:World)(p:Option Addr)(n c:Nat)(h:n≤200)(hn:n<1∨65<n):Calls Tryz.prog 9 #[.slice p n c] w (Rt w (.tuple #[.pointer none,.int .i64 1])):=by
 have HP:=ι (fun w=>cpossible (n:Int) w (WalkArith.wf_i64 (by omega)))
 rw[decide_eq_false (show ¬(1≤(n:Int)∧(n:Int)≤65) by omega)] at HP
 have hni:(n:Int)≤200:=by omega
 go_enter Tryz.func9,Tryz.ntmps9
 go_wp2_with (go_at_call 56;refine(HP.out w).mono ?_;rintro e w0 ⟨rfl,rfl⟩)
 go_ret2
 exact⟨rfl,Below.refl _ _⟩
end dsk
end Go.Proofs.YtiaapfijbidgnaaGreatDoor
