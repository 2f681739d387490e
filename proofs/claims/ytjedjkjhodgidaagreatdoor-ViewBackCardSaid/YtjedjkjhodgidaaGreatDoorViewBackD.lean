/- What ViewBack wants, part 4. -/
import Derived.Test.YtjedjkjhodgidaaGreatDoorViewBackA
import Derived.Test.YtjedjkjhodgidaaGreatDoorViewBackB
import Derived.Stop.BytesEq
set_option linter.unusedVariables false
set_option linter.unusedSimpArgs false
namespace Go.Proofs.YtjedjkjhodgidaaGreatDoor
namespace sec
set_option maxRecDepth 100000
open Go.ChangeShapes Go.WideShapes Go.ChangeAt Go.RowKit
open rows
def u8s(xs:List Int):List Value:=xs.map (Value.int .u8)
def i64s(xs:List Int):List Value:=xs.map (Value.int .i64)
def Sec(s:List Int):Prop:=s.length=32∧∀x∈s,0≤x∧x<256
def Secs(ss:List (List Int)):Prop:=∀s∈ss,Sec s
def cellsOf(ss:List (List Int)):List Value:=u8s ss.flatten
theorem a0p{ss:List (List Int)}(h:Secs ss):(cellsOf ss).length=ss.length * 32:=by
 unfold cellsOf u8s
 rw[List.length_map]
 induction ss with
 | nil=>rfl
 | cons s t ih =>
  have:=(h s (List.mem_cons_self ..)).1
  have:=ih fun x hx=>h x (List.mem_cons_of_mem _ hx)
  simp only[List.flatten_cons,List.length_append,List.length_cons]
  omega
theorem cellsOf_at{ss:List (List Int)}(h:Secs ss){j:Nat}(hj:j<ss.length):∀i u,(u8s ss[j])[i]? = some u→(cellsOf ss)[j * 32+i]? = some u:=by
 induction ss generalizing j with
 | nil=>simp at hj
 | cons s t ih =>
  have hs:=(h s (List.mem_cons_self ..)).1
  intro i u hi
  have e:cellsOf (s::t)=u8s s++cellsOf t:=by simp[cellsOf,u8s]
  have hl:(u8s s).length=32:=by simp[u8s,hs]
  rw[e]
  cases j with
  | zero =>
   rw[Nat.zero_mul,Nat.zero_add]
   have hi2:(u8s s)[i]? = some u:=hi
   have hi':=(List.getElem?_eq_some_iff.1 hi2).1
   rw[List.getElem?_append_left hi']
   exact hi2
  | succ j =>
   rw[List.getElem?_append_right (by omega),hl,show (j+1) * 32+i-32=j * 32+i by omega]
   exact ih (fun x hx=>h x (List.mem_cons_of_mem _ hx)) (by simpa using hj) i u (by simpa using hi)
theorem a7w{s:List Int}(h:∀x∈s,0≤x∧x<256):u8s s=((s.map fun x=>UInt8.ofNat x.toNat).map Extern.Stop.cell):=by
 unfold u8s
 rw[List.map_map]
 apply List.map_congr_left
 intro x hx
 have:=h x hx
 simp only[Function.comp_def,Extern.Stop.cell]
 congr 1
 simp
 omega
theorem bytes_inj{a b:List Int}(ha:∀x∈a,0≤x∧x<256)(hb:∀x∈b,0≤x∧x<256)(h:(a.map fun n=>UInt8.ofNat n.toNat)=b.map fun n=>UInt8.ofNat n.toNat):a=b:=by
 have hl:a.length=b.length:=by simpa using congrArg List.length h
 apply List.ext_getElem hl
 intro i hi1 hi2
 have h2:UInt8.ofNat a[i].toNat=UInt8.ofNat b[i].toNat:=by
  have:=congrArg (fun l:List UInt8=>l[i]?) h
  simpa [hi1,hi2] using this
 have h3:=ha _ (List.getElem_mem hi1)
 have h4:=hb _ (List.getElem_mem hi2)
 have h5:=congrArg UInt8.toNat h2
 simp only[UInt8.toNat_ofNat'] at h5
 omega
theorem elem_secs:Elem 22 74 32 32 (.agg (u8s (List.replicate 32 0)).toArray):=⟨Tryz.underlying22,by kernel_rfl,by decide,by decide,by decide⟩
theorem size8(w:World):(sizeOf 5).run Tryz.prog w = .ok 1 w:=by kernel_rfl
theorem a5j(w:World){a b:List Int}(ha:Sec a)(hb:Sec b):(Op.equalIn 10000 74 (.agg (u8s a).toArray) (.agg (u8s b).toArray)).run Tryz.prog w = .ok (decide (a=b)) w:=by
 rw[a7w ha.2,a7w hb.2,run_equalIn_bytes w 9998 74 5 32 Tryz.underlying74 Tryz.underlying5 size8 _ _ (by simp[ha.1]) (by simp[hb.1])]
 congr 1
 rw[Bool.eq_iff_iff]
 simp only[beq_iff_eq,decide_eq_true_eq]
 exact⟨fun h=>bytes_inj ha.2 hb.2 h,fun h=>by rw[h]⟩
theorem a9j:Tryz.prog.eqGuardType Tryz.prog.depth 74=false:=by kernel_rfl
theorem a0m:(Tryz.prog.info? 74).map (·.size)=some 32:=by kernel_rfl
theorem b2y{ops:Array Oper}{S:World→Prop}{op:Oper}{a:Act}(hw:Region.wanted op (yielded ops a.tmps)=true)(x:Operand)(ho:op.op = .load 74 x)
  (b o:Nat) (hx:a.eval x = .pointer (some ⟨b,o,none⟩)) (s:List Int) (hs:s.length=32) (hS:∀w,S w→w.rangeAt b o (u8s s)):YieldsIf Tryz.prog ops S op (.agg (u8s s).toArray) a :=
 yieldsIf_load_mid hw _ x ho b o hx (u8s s) _ hS Tryz.underlying74 rfl (by rw[a0m];simp[u8s,hs])
theorem Rd.rangeLater{w w':World}{b o:Nat}{cs:List Value}(h:w.rangeAt b o cs)(hb:b<w.heap.size)(k:Below w.heap.size w w'):w'.rangeAt b o cs:=fun i u hi=>by
 rw[k.cell (p:=⟨b,o+i,none⟩) hb];exact h i u hi
end sec
namespace dsk
set_option maxRecDepth 100000
open Go.ChangeShapes Go.WideShapes Go.ChangeAt Go.RowKit
open rows
open sec
structure Wr where
 pos:Int
 s:List Int
 kind:Int
 id:Int
 ep:Int
def tagC(t:Int×Int):List Value:=[.int .i64 t.1,.int .i64 t.2]
def Wr.c(x:Wr):List Value := .int .i64 x.pos::(u8s x.s++[.int .i64 x.kind,.int .i64 x.id,.int .i64 x.ep])
def wrsC(ws:List Wr):List Value:=(ws.map Wr.c).flatten
def tagsC(ts:List (Int×Int)):List Value:=(ts.map tagC).flatten
def wf64(n:Int):Prop:=(Lit.int .i64 n).wf=true
def Wr.ok(x:Wr):Prop:=Sec x.s∧wf64 x.pos∧wf64 x.kind∧wf64 x.id∧wf64 x.ep
theorem Wr.c_len{x:Wr}(h:Sec x.s):x.c.length=36:=by simp[Wr.c,u8s,h.1]
theorem a3s{α:Type}(enc:α→List Value)(sz:Nat):∀(l:List α),(∀x∈l,(enc x).length=sz)→((l.map enc).flatten).length=l.length * sz
 | [],_=>by simp
 | x::t,h=>by
  have h1:=h x (List.mem_cons_self ..)
  have h2:=a3s enc sz t fun y hy=>h y (List.mem_cons_of_mem _ hy)
  simp only[List.map_cons,List.flatten_cons,List.length_append,List.length_cons,h1,h2,Nat.succ_mul]
  omega
theorem a8a{α:Type}(enc:α→List Value)(sz:Nat):∀(l:List α),(∀x∈l,(enc x).length=sz)→∀(j:Nat) (hj:j<l.length) (i:Nat),i<sz→((l.map enc).flatten)[j * sz+i]? = (enc l[j])[i]?
 | [],_,j,hj,_,_=>by simp at hj
 | x::t,h,j,hj,i,hi=>by
  have h1:=h x (List.mem_cons_self ..)
  rw[List.map_cons,List.flatten_cons]
  cases j with
  | zero=>rw[Nat.zero_mul,Nat.zero_add,List.getElem?_append_left (by omega)];rfl
  | succ j =>
   rw[List.getElem?_append_right (by rw[h1,Nat.succ_mul];omega),h1,show (j+1) * sz+i-sz=j * sz+i by rw[Nat.succ_mul];omega]
   exact a8a enc sz t (fun y hy=>h y (List.mem_cons_of_mem _ hy)) j (by simpa using hj) i hi
theorem Rd.chunk{α:Type}(enc:α→List Value){sz:Nat}{w:World}{p:Option Addr}{n c:Nat}{l:List α}(h:Rd w sz (.slice p n c) n ((l.map enc).flatten))(he:∀x∈l,(enc x).length=sz)(h0:0<sz){j:Nat}(hj:j<n) :
  ∃b off,p=some ⟨b,off,none⟩∧n≤c∧c≤maxLen∧b<w.heap.size∧l.length=n∧∀j (hj:j<l.length),w.rangeAt b (off+j * sz) (enc l[j]):=by
 have hlen:=h.cells
 rw[a3s enc sz l he] at hlen
 have hl:l.length=n:=Nat.eq_of_mul_eq_mul_right h0 hlen
 rcases h with⟨p',cap',h1,rfl,_⟩|⟨b,off,cap',h1,h2,h3,h4,h5,h6,h7⟩
 ·omega
 ·cases h1
  refine⟨b,off,rfl,h3,h4,h5,hl,fun j hj i u hi => ?_⟩
  have hi':i<sz:=by have:=(List.getElem?_eq_some_iff.1 hi).1;rw[he _ (List.getElem_mem hj)] at this;exact this
  rw[Nat.add_assoc]
  exact h7 _ u (by rw[a8a enc sz l he j hj i hi'];exact hi)
theorem Rd.count{α:Type}(enc:α→List Value){sz:Nat}{w:World}{v:Value}{n:Nat}{l:List α}(h:Rd w sz v n ((l.map enc).flatten))(he:∀x∈l,(enc x).length=sz)(h0:0<sz):l.length=n:=by
 have hlen:=h.cells
 rw[a3s enc sz l he] at hlen
 exact Nat.eq_of_mul_eq_mul_right h0 hlen
structure Touch (S:Nat→Prop) (w w':World):Prop where
 os:w'.os=w.os
 tape:w'.tape=w.tape
 output:w'.output=w.output
 size:w.heap.size≤w'.heap.size
 block:∀k,k<w.heap.size→¬S k→w'.heap[k]? = w.heap[k]?
theorem Touch.refl(S:Nat→Prop)(w:World):Touch S w w:=⟨rfl,rfl,rfl,Nat.le_refl _,fun _ _ _=>rfl⟩
theorem Touch.of_below{S:Nat→Prop}{w w':World}(h:Below w.heap.size w w'):Touch S w w':=⟨h.os,h.tape,h.output,h.size,fun k hk _=>h.block k hk⟩
theorem Touch.trans{S:Nat→Prop}{a b c:World}(h:Touch S a b)(k:Touch S b c):Touch S a c :=
 ⟨k.os.trans h.os,k.tape.trans h.tape,k.output.trans h.output,Nat.le_trans h.size k.size,fun i hi hn=>(k.block i (Nat.lt_of_lt_of_le hi h.size) hn).trans (h.block i hi hn)⟩
theorem Touch.mono{S S':Nat→Prop}{a b:World}(h:Touch S a b)(hS:∀i,S i→S' i):Touch S' a b:=⟨h.os,h.tape,h.output,h.size,fun k hk hn=>h.block k hk fun hs=>hn (hS k hs)⟩
theorem Touch.below{S:Nat→Prop}{a b:World}{B:Nat}(h:Touch S a b)(hB:B≤a.heap.size)(hS:∀i,S i→B≤i):Below B a b:=⟨h.os,h.tape,h.output,h.size,fun k hk=>h.block k (by omega) fun hs=>by have:=hS k hs;omega⟩
theorem a3a{w w':World}{g B:Nat}{o:Obj}(h:w.heap[g]? = some o)(hb:Below B w w')(hg:g<B):w'.heap[g]? = some o:=(hb.block g hg).trans h
theorem Touch.alloc{S:Nat→Prop}{a b:World}(h:Touch S a b)(o:Obj):Touch S a (b.alloc o):=h.trans (Touch.of_below (a0b (Below.refl _ _) o))
theorem Touch.setCell{S:Nat→Prop}{a b:World}(h:Touch S a b)(p:Addr)(hp:S p.block)(v:Value):Touch S a (b.setCell p v) :=
 h.trans ⟨rfl,rfl,rfl,by simp[World.setCell],fun k hk hn=>Below.heap_setCell _ _ _ _ fun e=>hn (by rw[e];exact hp)⟩
theorem Touch.cell{S:Nat→Prop}{a b:World}(h:Touch S a b){p:Addr}(hp:p.block<a.heap.size)(hs:¬S p.block):b.cell? p=a.cell? p:=World.cell?_of_block (w:=a) (h.block p.block hp hs)
theorem Touch.range{S:Nat→Prop}{a b:World}(h:Touch S a b){g o:Nat}{cs:List Value}(hg:g<a.heap.size)(hs:¬S g)(hr:a.rangeAt g o cs):b.rangeAt g o cs:=fun i u hi=>by
 rw[h.cell (p:=⟨g,o+i,none⟩) hg hs]
 exact hr i u hi
def Keeps(S:Nat→Prop)(w w':World):Prop:=w.heap.size≤w'.heap.size∧∀k,k<w.heap.size→S k→w'.heap[k]? = w.heap[k]?
theorem Touch.keeps{S T:Nat→Prop}{w w':World}(h:Touch T w w')(hd:∀k,S k→¬T k):Keeps S w w':=⟨h.size,fun k hk hs=>h.block k hk (hd k hs)⟩
def InS(S:Nat→Prop)(v:Value):Prop:=∀a n c,v = .slice (some a) n c→0<n→S a.block
theorem Rd.kept{S:Nat→Prop}{w w':World}{sz n:Nat}{v:Value}{cs:List Value}(h:Rd w sz v n cs)(hv:InS S v)(k:Keeps S w w'):Rd w' sz v n cs:=by
 rcases h with h|⟨b,off,cap,h1,h2,h2a,h2b,h3,h4,h5⟩
 ·exact Or.inl h
 ·refine Or.inr ⟨b,off,cap,h1,h2,h2a,h2b,Nat.lt_of_lt_of_le h3 k.1,h4,fun i u hi => ?_⟩
  rw[World.cell?_of_block (w:=w) (a:=⟨b,off+i,none⟩) (k.2 b h3 (hv _ _ _ h1 h2))]
  exact h5 i u hi
theorem Keeps.set{S:Nat→Prop}{w:World}{g i:Nat}(hs:∀k,S k→k≠g)(u:Value):Keeps S w (w.setCell ⟨g,i,none⟩ u):=⟨by simp[World.setCell],fun k _ hk=>Below.heap_setCell _ _ _ _ (hs k hk)⟩
theorem Keeps.of_below{S:Nat→Prop}{w w':World}(h:Below w.heap.size w w'):Keeps S w w':=⟨h.size,fun k hk _=>h.block k hk⟩
theorem Keeps.mono{S T:Nat→Prop}{a b:World}(h:Keeps S a b)(k:∀i,T i→S i):Keeps T a b:=⟨h.1,fun i hi ht=>h.2 i hi (k i ht)⟩
theorem a0c{w:World}{g:Nat}{cs:Array Value}{t:TypeId}(h:w.heap[g]? = some (.cells cs t (0,0)))(i:Nat)(v:Value)(hi:cs[i]? = some v):w.cell? ⟨g,i,none⟩=some v:=by
 rw[cell_of_row _ _ i _ _ (0,0) h,hi]
theorem a0j{w:World}{g:Nat}{cs:Array Value}{t:TypeId}(h:w.heap[g]? = some (.cells cs t (0,0)))(i:Nat):w.frozen? ⟨g,i,none⟩=false:=by
 simp[World.frozen?,h]
theorem a0f{w:World}{g i:Nat}{cs:Array Value}{t:TypeId}(h:w.heap[g]? = some (.cells cs t (0,0)))(v:Value):(w.setCell ⟨g,i,none⟩ v).heap[g]? = some (.cells (cs.setIfInBounds i v) t (0,0)):=by
 rw[setCell_eq_setRow w g i cs t (0,0) v h]
 exact setRow_heap w g _ _ _ _ h
end dsk
namespace sec
set_option maxRecDepth 100000
open Go.ChangeShapes Go.WideShapes Go.ChangeAt Go.RowKit
open rows
theorem row_at{w:World}{p:Option Addr}{n c:Nat}{ss:List (List Int)}(h:Rd w 32 (.slice p n c) n (cellsOf ss))(hs:Secs ss){j:Nat}(hj:j<n) :
  ∃b off,p=some ⟨b,off,none⟩∧n≤c∧c≤maxLen∧b<w.heap.size∧ss.length=n∧∀j (hj:j<ss.length),w.rangeAt b (off+j * 32) (u8s ss[j]):=by
 have hlen:=h.cells
 rw[a0p hs] at hlen
 have hl:ss.length=n:=by omega
 rcases h with⟨p',cap',h1,rfl,_⟩|⟨b,off,cap',h1,h2,h3,h4,h5,h6,h7⟩
 ·omega
 ·cases h1
  refine⟨b,off,rfl,h3,h4,h5,hl,fun j hj i u hi => ?_⟩
  rw[Nat.add_assoc]
  exact h7 _ u (cellsOf_at hs hj i u hi)
end sec
namespace sec
set_option maxRecDepth 100000
open Go.ChangeShapes Go.WideShapes Go.ChangeAt Go.RowKit
open rows
theorem b4v:Elem 54 5 1 1 (.int .u8 0):=⟨Tryz.underlying54,by kernel_rfl,by decide,by decide,by decide⟩
theorem a4g{ss:List (List Int)}(h:Secs ss):ss.flatten.length=ss.length * 32:=by
 have:=a0p h
 unfold cellsOf u8s at this
 rw[List.length_map] at this
 exact this
end sec
namespace sec
set_option maxRecDepth 100000
open Go.ChangeShapes Go.WideShapes Go.ChangeAt Go.RowKit
open rows
def part(zs:List Int)(j K:Nat):List Value:=u8s (zs.take j++List.replicate (K * 32-j) 0)
end sec
namespace dsk
set_option maxRecDepth 100000
open Go.ChangeShapes Go.WideShapes Go.ChangeAt Go.RowKit
open rows
open sec
structure St where
 safe:List (List Int)
 wait:List Wr
 ep:Int
 log:List (Int×Wr×List (Int×Int))
 bad:List Int
 asked:Int
abbrev Ev:=Int×Wr×List (Int×Int)
def evC(e:Ev)(v:Value):List Value := .int .i64 e.1::(e.2.1.c++[v])
end dsk
namespace dsk
set_option maxRecDepth 100000
open Go.ChangeShapes Go.WideShapes Go.ChangeAt Go.RowKit
open rows
open sec
theorem und_tag:Tryz.prog.underlying 76=some (.struct (Tryz.prog.fieldsOf 76)):=by kernel_rfl
theorem c0v:Tryz.prog.underlying 78=some (.struct (Tryz.prog.fieldsOf 78)):=by kernel_rfl
theorem a2w:Tryz.prog.underlying 3=some (.int .i64):=Tryz.underlying3
theorem a2r(w:World)(xs:Array Value)(i:Nat)(v:Value)(h:xs[i]? = some v):(part 3 xs i).run Tryz.prog w = .ok v w:=by
 simp[part,isAgg,run_underlying a2w,h]
theorem a0r(d:Nat)(xs ys:Array Value)(f:Field)(fs:List Field)(hn:f.name ≠ "_")(w:World){a b:Value}{r:Bool}(ha:(part f.type xs f.offset).run Tryz.prog w = .ok a w)(hb:(part f.type ys f.offset).run Tryz.prog w = .ok b w)
  (hr:(Op.equalIn d f.type a b).run Tryz.prog w = .ok r w):(Op.eqFields d xs ys (f::fs)).run Tryz.prog w=if r=true then (Op.eqFields d xs ys fs).run Tryz.prog w else .ok false w:=by
 simp only[Op.eqFields,hn,ne_eq,not_false_eq_true,if_true,Sem.run_bind,ha,hb,hr,Result.andThen_ok]
 cases r<;>simp
end dsk
namespace dsk
set_option maxRecDepth 100000
open Go.ChangeShapes Go.WideShapes Go.ChangeAt Go.RowKit
open rows
open sec
theorem b3z{ops:Array Oper}{S:World→Prop}{op:Oper}{a:Act}(hw:Region.wanted op (yielded ops a.tmps)=true)(T r:TypeId)(x y:Operand)(ho:op.op = .binOp .neq T x y r)
  (xs ys:Array Value) (hx:a.eval x = .agg xs) (hy:a.eval y = .agg ys) (hg:Tryz.prog.eqGuardType Tryz.prog.depth T=false) (q:Bool) (he:∀w,(Op.equalIn 10000 T (.agg xs) (.agg ys)).run Tryz.prog w = .ok q w):YieldsIf Tryz.prog ops S op (.bool (!q)) a :=
 .inl ⟨hw,fun w _=>by
  unfold execOp
  simp only[ho,hx,hy,Sem.run_bind,run_eqGuard_agg w .neq T x y xs ys hg,run_neq_struct,he,Result.andThen_ok,Sem.run_pure]⟩
theorem a0o{ops:Array Oper}{S:World→Prop}{op:Oper}{a:Act}(hw:Region.wanted op (yielded ops a.tmps)=true)(T:TypeId)(d:TypeDesc)(hu:Tryz.prog.underlying T=some d)(hd:d.isRow=false)(x:Operand)(ho:op.op = .load T x)
  (b o:Nat) (hx:a.eval x = .pointer (some ⟨b,o,none⟩)) (v:Value) (hS:∀w,S w→w.cell? ⟨b,o,none⟩=some v):YieldsIf Tryz.prog ops S op v a :=
 .inl ⟨hw,fun w h=>by
  have hagg:(isAgg T).run Tryz.prog w = .ok false w:=by
   unfold isAgg
   rw[Sem.run_bind,run_underlying hu w]
   cases d<;>simp_all
  unfold execOp
  simp only[ho,hx,Instr.loadAt,Instr.sureAddr,Sem.run_bind,Sem.run_pure,Result.andThen_ok,loadVar,hagg,Bool.false_eq_true,if_false]
  simp[hS w h]⟩
theorem b5g:(Tryz.prog.info? 78).map (·.size)=some 36:=by kernel_rfl
theorem ld_wr{ops:Array Oper}{S:World→Prop}{op:Oper}{a:Act}(hw:Region.wanted op (yielded ops a.tmps)=true)(x:Operand)(ho:op.op = .load 78 x)
  (b o:Nat) (hx:a.eval x = .pointer (some ⟨b,o,none⟩)) (y:Wr) (hs:Sec y.s) (hS:∀w,S w→w.rangeAt b o y.c):YieldsIf Tryz.prog ops S op (.agg y.c.toArray) a :=
 yieldsIf_load_mid hw _ x ho b o hx y.c _ hS c0v rfl (by rw[b5g,Wr.c_len hs])
theorem b9r:Tryz.prog.underlying 22=some (.slice 74):=Tryz.underlying22
theorem Touch.drewL{S:Nat→Prop}{a b:World}(h:Touch S a.drew b):Touch S a b:=⟨h.os,h.tape,h.output,h.size,h.block⟩
theorem b6b{e:Ev}{v:Value}(h:Sec e.2.1.s):(evC e v).length=38:=by simp[evC,Wr.c_len h]
theorem b6t{w:World}{b o k:Nat}{cs:List Value}(h:w.rangeAt b o cs):w.rangeAt b (o+k) (cs.drop k):=fun j u hj=>by
 rw[List.getElem?_drop] at hj
 rw[Nat.add_assoc]
 exact h (k+j) u hj
theorem b4o{w:World}{b o:Nat}{l r:List Value}(h:w.rangeAt b o (l++r)):w.rangeAt b o l:=fun j u hj=>h j u (by rw[List.getElem?_append_left (List.getElem?_eq_some_iff.1 hj).1];exact hj)
end dsk
namespace rows
set_option maxRecDepth 100000
open Go.ChangeShapes Go.WideShapes Go.ChangeAt Go.RowKit
open dsk
theorem b5p{α:Type}{p:Nat→α→Prop}:∀(n:Nat),(∀i,i<n→∃a,p i a)→∃l:List α,l.length=n∧∀i (h:i<l.length),p i l[i]
 | 0,_=>⟨[],rfl,fun i h=>by simp at h⟩
 | n+1,h=>by
  obtain⟨l,hl,hp⟩:=b5p n fun i hi=>h i (by omega)
  obtain⟨a,ha⟩:=h n (by omega)
  refine⟨l++[a],by simp[hl],fun i hi => ?_⟩
  by_cases hlt:i<l.length
  ·rw[List.getElem_append_left hlt]
   exact hp i hlt
  ·have:i=n:=by simp at hi;omega
   subst this
   rw[List.getElem_append_right (by omega)]
   simpa [hl] using ha
section
variable {H:Type} {enc:TypeId×Value→H} {W:World} {base:Nat} {spare:Nat→Bool} {held:Bool}
theorem open_slice{α:Type}(encα:α→List Value){sz:Nat}(h0:0<sz){t e:TypeId}(hu:Tryz.prog.underlying t=some (.slice e))(hc:Tryz.prog.cellsOf e=sz)(good:α→Prop)(hlen:∀a,good a→(encα a).length=sz)
  (one:∀(n:Nat) (cs:List Value) (x:DataW H×List MemPlace),DataW.trod enc Tryz.prog W base spare held n e cs=some x→∃a,good a∧cs=encα a) {fuel:Nat} {cs:List Value} {x:DataW H×List MemPlace}
  (hf:DataW.trod enc Tryz.prog W base spare held fuel t cs=some x) :
  ∃(p:Option Addr) (len cap:Nat) (l:List α),cs=[.slice p len cap]∧(∀a∈l,good a)∧l.length=len∧Rd W sz (.slice p len cap) len ((l.map encα).flatten)∧len≤maxLen:=by
 rcases DataW.trod_slice hu hf with⟨hcs,_⟩|⟨a,len,cap,elems,rest,n,_,hcs,_,_,hl,hm,hel,hat,_,_⟩
 ·exact⟨none,0,0,[],hcs,by simp,rfl,Or.inl ⟨_,_,rfl,rfl,rfl,fun _=>rfl⟩,Nat.zero_le _⟩
 ·rw[hc] at hat
  have each:∀i,i<len→∃a',good a'∧∀k,k<sz→W.cell? ((a.add (i * sz)).add k)=(encα a')[k]? := by
   intro i hi
   have h1:=hat i hi
   rw[List.getElem?_eq_getElem (by omega),Option.bind_eq_some_iff] at h1
   obtain⟨cs',hcs',ht⟩:=h1
   obtain⟨a',ha',rfl⟩:=one _ _ _ ht
   exact⟨a',ha',(World.cells?_some hcs').2.2⟩
  by_cases hz:len=0
  ·subst hz
   exact⟨some a,0,cap,[],hcs,by simp,rfl,Or.inl ⟨_,_,rfl,rfl,rfl,fun h=>by cases h⟩,Nat.zero_le _⟩
  ·obtain⟨b,off,spot⟩:=a
   have hspot:spot=none:=by
    obtain⟨a',ha',hcell⟩:=each 0 (by omega)
    have h2:=hcell 0 h0
    have hl':=hlen a' ha'
    rw[List.getElem?_eq_getElem (by omega)] at h2
    cases spot with
    | none=>rfl
    | some y =>
     simp[Addr.add,World.cell?] at h2
     split at h2<;>cases h2
   subst hspot
   obtain⟨l,hll,hlp⟩:=b5p len each
   have hg:∀a∈l,good a:=fun a ha=>by
    obtain⟨i,hi,rfl⟩:=List.getElem_of_mem ha
    exact(hlp i hi).1
   have hle:∀a∈l,(encα a).length=sz:=fun a ha=>hlen a (hg a ha)
   have hcl:((l.map encα).flatten).length=len * sz:=by rw[a3s encα sz l hle,hll]
   have hcellat:∀i (hi:i<l.length) k,k<sz→W.cell? ⟨b,off+i * sz+k,none⟩=(encα l[i])[k]? := fun i hi k hk=>by
    have h1:=(hlp i hi).2 k hk
    have e:((⟨b,off,none⟩:Addr).add (i * sz)).add k=⟨b,off+i * sz+k,none⟩:=by rw[Addr.add_mid,Addr.add_mid]
    exact(congrArg W.cell? e).symm.trans h1
   refine⟨_,len,cap,l,hcs,hg,hll,Or.inr ⟨b,off,cap,rfl,by omega,hl,hm,?_,hcl,?_⟩,by omega⟩
   ·have h1:=hcellat 0 (by omega) 0 h0
    have hl0:=hle _ (List.getElem_mem (show 0<l.length by omega))
    rw[List.getElem?_eq_getElem (by omega)] at h1
    exact block_lt_of_cell h1
   ·intro k u hk
    have hkl:k<len * sz:=by
     have:=(List.getElem?_eq_some_iff.1 hk).1
     rw[hcl] at this;exact this
    have hi:k / sz<l.length:=by rw[hll];exact Nat.div_lt_of_lt_mul (by rw[Nat.mul_comm];exact hkl)
    have hr:=Nat.mod_lt k h0
    have h1:=hcellat (k / sz) hi (k % sz) hr
    have h2:=a8a encα sz l hle (k / sz) hi (k % sz) hr
    have hdm:k / sz * sz+k % sz=k:=by rw[Nat.mul_comm];exact Nat.div_add_mod k sz
    rw[hdm,hk] at h2
    rw[show off+k=off+k / sz * sz+k % sz by omega,h1,← h2]
end
end rows
namespace dsk
set_option maxRecDepth 100000
open Go.ChangeShapes Go.WideShapes Go.ChangeAt Go.RowKit
open rows
open sec
theorem a4h{α:Type}(cs:List α)(n m:Nat):(cs.drop n).take m++cs.drop (n+m)=cs.drop n:=by
 rw[← List.drop_drop,List.take_append_drop]
section
variable {H:Type} {enc:TypeId×Value→H} {W:World} {base:Nat} {spare:Nat→Bool} {held:Bool}
theorem a7c{T:TypeId}{fs:Array Field}(ht:Tryz.prog.underlying T=some (.struct fs)){L:List (TypeId×Nat)}(hL:fs.toList.map (fun f=>(f.type,f.offset))=L){fuel:Nat}{cs:List Value}{x:DataW H×List MemPlace}
  (h:DataW.trod enc Tryz.prog W base spare held fuel T cs=some x):cs.length=Tryz.prog.cellsOf T∧∀(i:Nat) (ty:TypeId) (off:Nat),L[i]? = some (ty,off)→∃n y,DataW.trod enc Tryz.prog W base spare held n ty ((cs.drop off).take (Tryz.prog.cellsOf ty))=some y:=by
 obtain⟨xs,n,_,_,hl,hx,hf⟩:=DataW.trod_struct ht h
 refine⟨hl,fun i ty off hi => ?_⟩
 rw[← hL,List.getElem?_map] at hi
 cases hq:fs[i]? with
 | none=>simp[hq] at hi
 | some f =>
  have h1:(f.type,f.offset)=(ty,off):=by simpa [hq] using hi
  have h2:=hf i f hq
  have hix:i<xs.length:=by rw[hx];exact(Array.getElem?_eq_some_iff.1 hq).1
  rw[List.getElem?_eq_getElem hix] at h2
  cases h1
  exact⟨n,_,h2⟩
end
end dsk
namespace dsk
set_option maxRecDepth 100000
open Go.ChangeShapes Go.WideShapes Go.ChangeAt Go.RowKit
open rows
open sec
def zero32:List Int:=List.replicate 32 0
theorem a1n:Sec zero32:=by
 refine⟨by simp[zero32],fun x hx => ?_⟩
 have:=List.eq_of_mem_replicate hx
 omega
theorem a1s(ss:List (List Int)):cellsOf ss=(ss.map u8s).flatten:=by
 simp only[cellsOf,u8s,List.map_flatten]
 rfl
theorem a2p(s:List Int):(u8s s).length=s.length:=by simp[u8s]
theorem a6b(n:Nat):Secs (List.replicate n zero32):=fun s hs=>by rw[List.eq_of_mem_replicate hs];exact a1n
theorem a9k(n:Nat):cellsOf (List.replicate n zero32)=List.replicate (n * 32) (.int .u8 0):=by
 unfold cellsOf u8s zero32
 rw[List.flatten_replicate_replicate,List.map_replicate]
theorem b9d(k n:Nat)(v:Value)(hk:0<k):(madeCells (List.replicate k v).toArray n).toList=List.replicate n v:=by
 apply List.ext_getElem
 ·simp[size_madeCells]
 ·intro i h1 h2
  have:i % k<k:=Nat.mod_lt _ hk
  simp[madeCells,this]
theorem b0a(n:Nat):(madeCells (Value.agg (u8s (List.replicate 32 0)).toArray).cells (n * 32)).toList=cellsOf (List.replicate n zero32):=by
 rw[a9k]
 have hz:(Value.agg (u8s (List.replicate 32 0)).toArray).cells=(List.replicate 32 (Value.int .u8 0)).toArray:=by simp[Value.cells,u8s]
 rw[hz,b9d 32 _ _ (by decide)]
theorem a5t{α:Type}(enc:α→List Value)(sz:Nat):∀(l:List α) (i:Nat) (x:α),(∀y∈l,(enc y).length=sz)→(enc x).length=sz→i<l.length →
  ((l.map enc).flatten).take (i * sz)++enc x++((l.map enc).flatten).drop (i * sz+sz)=((l.set i x).map enc).flatten
 | [],i,_,_,_,h=>by simp at h
 | y::t,0,x,hl,hx,_=>by
  have hy:=hl y (List.mem_cons_self ..)
  rw[List.map_cons,List.flatten_cons,Nat.zero_mul,List.take_zero,List.nil_append,Nat.zero_add,List.drop_left' hy]
  rfl
 | y::t,i+1,x,hl,hx,h=>by
  have hy:=hl y (List.mem_cons_self ..)
  have ih:=a5t enc sz t i x (fun z hz=>hl z (List.mem_cons_of_mem _ hz)) hx (by simpa using h)
  rw[List.map_cons,List.flatten_cons,List.set_cons_succ,List.map_cons,List.flatten_cons,← ih]
  have e1:(i+1) * sz=(enc y).length+i * sz:=by rw[hy,Nat.succ_mul];omega
  have e2:(i+1) * sz+sz=(enc y).length+(i * sz+sz):=by rw[e1];omega
  rw[e1,show (enc y).length+i * sz+sz=(enc y).length+(i * sz+sz) by omega,List.take_length_add_append,List.drop_length_add_append]
  simp[List.append_assoc]
def Rows(w:World)(g:Nat)(ss:List (List Int)):Prop:=w.heap[g]? = some (.cells (cellsOf ss).toArray 74 (0,0))
theorem b7s{w:World}{g:Nat}{ss:List (List Int)}(h:Rows w g ss)(hs:Secs ss)(hm:ss.length≤maxLen):Rd w 32 (.slice (some ⟨g,0,none⟩) ss.length ss.length) ss.length (cellsOf ss):=by
 by_cases h0:ss.length=0
 ·have:ss=[]:=List.eq_nil_of_length_eq_zero h0
  subst this
  exact Or.inl ⟨_,_,rfl,rfl,rfl,fun h=>by cases h⟩
 ·refine Or.inr ⟨g,0,_,rfl,by omega,Nat.le_refl _,hm,(Array.getElem?_eq_some_iff.1 h).1,a0p hs,fun i u hi => ?_⟩
  rw[Nat.zero_add,cell_of_row _ _ i _ _ (0,0) h]
  simpa using hi
theorem a9f{w:World}{B g n:Nat}{ss:List (List Int)}(h:w.ownsRow B 74 32 (.slice (some ⟨g,0,none⟩) n n) n (cellsOf ss)):Rows w g ss:=by
 rcases h.2 with⟨h2,_⟩|⟨g',cap,cur,h1,h2,h3,h4,h5,h6,h7⟩
 ·cases h2
 ·cases h1
  rw[List.take_of_length_le (by simp[h6])] at h7
  rw[Rows,← h7]
  exact h3
theorem a4d{w:World}{g i:Nat}{ss:List (List Int)}(h:Rows w g ss)(hs:Secs ss)(hi:i<ss.length){s:List Int}(hl:Sec s) :
  (storeVar 74 ⟨g,i * 32,none⟩ (.agg (u8s s).toArray)).run Tryz.prog w = .ok () (w.setRow g (cellsOf (ss.set i s)).toArray):=by
 have h1:=run_storeCells_at (P:=Tryz.prog) g (i * 32) 74 (u8s s) 0 (cellsOf ss).toArray w h (by simp[a0p hs,a2p,hl.1];omega) (a2t .u8 s)
 rw[Nat.add_zero,a2p,hl.1] at h1
 have e:(cellsOf ss).toArray.toList.take (i * 32)++u8s s++(cellsOf ss).toArray.toList.drop (i * 32+32)=cellsOf (ss.set i s):=by
  rw[a1s,a1s]
  exact a5t u8s 32 ss i s (fun y hy=>by rw[a2p,(hs y hy).1]) (by rw[a2p,hl.1]) hi
 rw[e] at h1
 cases hq:Tryz.prog.info? 74 with
 | none=>have:=a0m;simp[hq] at this
 | some q =>
  have hsz:q.size=32:=by have:=a0m;simpa [hq] using this
  have hc:(Value.agg (u8s s).toArray).cells=(u8s s).toArray:=rfl
  simp[storeVar,sizeOf,typeInfo,hq,hsz,hc,a2p,hl.1,h1]
theorem b2q{w:World}{g:Nat}{ss ss':List (List Int)}(h:Rows w g ss):Rows (w.setRow g (cellsOf ss').toArray) g ss':=setRow_heap w g _ _ _ _ h
theorem a9w(w:World)(g:Nat)(cs:Array Value):Touch (· = g) w (w.setRow g cs):=⟨rfl,rfl,rfl,by simp[World.setRow],fun k _ hk=>setRow_other w g k cs hk⟩
theorem a2v{ss:List (List Int)}(hs:Secs ss){s:List Int}(h:Sec s)(i:Nat):Secs (ss.set i s):=fun x hx=>by
 rcases List.mem_or_eq_of_mem_set hx with h1|rfl
 ·exact hs x h1
 ·exact h
def st0(ss:List (List Int)):St:=⟨ss,[],0,[],[],0⟩
end dsk
end Go.Proofs.YtjedjkjhodgidaaGreatDoor
