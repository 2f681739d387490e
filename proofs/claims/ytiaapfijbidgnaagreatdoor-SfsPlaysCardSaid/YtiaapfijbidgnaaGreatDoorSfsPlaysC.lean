/- What SfsPlays wants, part 3. -/
import Derived.Test.YtiaapfijbidgnaaGreatDoorSfsPlaysA
import Derived.Test.YtiaapfijbidgnaaGreatDoorSfsPlaysB
import Derived.Stop.BytesEq
set_option linter.unusedVariables false
set_option linter.unusedSimpArgs false
namespace Go.Proofs.YtiaapfijbidgnaaGreatDoor
namespace sec
set_option maxRecDepth 100000
open Go.ChangeShapes Go.WideShapes Go.ChangeAt Go.RowKit
open rows
def u8s(xs:List Int):List Value:=xs.map (Value.int .u8)
def i64s(xs:List Int):List Value:=xs.map (Value.int .i64)
def Sec(s:List Int):Prop:=s.length=32∧∀x∈s,0≤x∧x<256
def Secs(ss:List (List Int)):Prop:=∀s∈ss,Sec s
def cellsOf(ss:List (List Int)):List Value:=u8s ss.flatten
theorem a0y{ss:List (List Int)}(h:Secs ss):(cellsOf ss).length=ss.length * 32:=by
 unfold cellsOf u8s
 rw[List.length_map]
 induction ss with
 | nil=>rfl
 | cons s t ih =>
  have:=(h s (List.mem_cons_self ..)).1
  have:=ih fun x hx=>h x (List.mem_cons_of_mem _ hx)
  simp only[List.flatten_cons,List.length_append,List.length_cons]
  omega
theorem a7b(a b:List (List Int)):cellsOf (a++b)=cellsOf a++cellsOf b:=by simp[cellsOf,u8s]
theorem b9d(s:List Int):cellsOf [s]=u8s s:=by simp[cellsOf,u8s]
theorem cellsOf_at{ss:List (List Int)}(h:Secs ss){j:Nat}(hj:j<ss.length):∀i u,(u8s ss[j])[i]? = some u→(cellsOf ss)[j * 32+i]? = some u:=by
 induction ss generalizing j with
 | nil=>simp at hj
 | cons s t ih =>
  have hs:=(h s (List.mem_cons_self ..)).1
  intro i u hi
  have e:cellsOf (s::t)=u8s s++cellsOf t:=by simp[cellsOf,u8s]
  have hl:(u8s s).length=32:=by simp[u8s,hs]
  rw[e]
  cases j with
  | zero =>
   rw[Nat.zero_mul,Nat.zero_add]
   have hi2:(u8s s)[i]? = some u:=hi
   have hi':=(List.getElem?_eq_some_iff.1 hi2).1
   rw[List.getElem?_append_left hi']
   exact hi2
  | succ j =>
   rw[List.getElem?_append_right (by omega),hl,show (j+1) * 32+i-32=j * 32+i by omega]
   exact ih (fun x hx=>h x (List.mem_cons_of_mem _ hx)) (by simpa using hj) i u (by simpa using hi)
theorem a6w{s:List Int}(h:∀x∈s,0≤x∧x<256):u8s s=((s.map fun x=>UInt8.ofNat x.toNat).map Extern.Stop.cell):=by
 unfold u8s
 rw[List.map_map]
 apply List.map_congr_left
 intro x hx
 have:=h x hx
 simp only[Function.comp_def,Extern.Stop.cell]
 congr 1
 simp
 omega
theorem bytes_inj{a b:List Int}(ha:∀x∈a,0≤x∧x<256)(hb:∀x∈b,0≤x∧x<256)(h:(a.map fun n=>UInt8.ofNat n.toNat)=b.map fun n=>UInt8.ofNat n.toNat):a=b:=by
 have hl:a.length=b.length:=by simpa using congrArg List.length h
 apply List.ext_getElem hl
 intro i hi1 hi2
 have h2:UInt8.ofNat a[i].toNat=UInt8.ofNat b[i].toNat:=by
  have:=congrArg (fun l:List UInt8=>l[i]?) h
  simpa [hi1,hi2] using this
 have h3:=ha _ (List.getElem_mem hi1)
 have h4:=hb _ (List.getElem_mem hi2)
 have h5:=congrArg UInt8.toNat h2
 simp only[UInt8.toNat_ofNat'] at h5
 omega
theorem c5i:Elem 39 3 1 8 (.int .i64 0):=⟨Tryz.underlying39,by kernel_rfl,by decide,by decide,by decide⟩
theorem elem_secs:Elem 22 95 32 32 (.agg (u8s (List.replicate 32 0)).toArray):=⟨Tryz.underlying22,by kernel_rfl,by decide,by decide,by decide⟩
theorem size8(w:World):(sizeOf 5).run Tryz.prog w = .ok 1 w:=by kernel_rfl
theorem a2a(w:World){a b:List Int}(ha:Sec a)(hb:Sec b):(Op.equalIn 10000 95 (.agg (u8s a).toArray) (.agg (u8s b).toArray)).run Tryz.prog w = .ok (decide (a=b)) w:=by
 rw[a6w ha.2,a6w hb.2,run_equalIn_bytes w 9998 95 5 32 Tryz.underlying95 Tryz.underlying5 size8 _ _ (by simp[ha.1]) (by simp[hb.1])]
 congr 1
 rw[Bool.eq_iff_iff]
 simp only[beq_iff_eq,decide_eq_true_eq]
 exact⟨fun h=>bytes_inj ha.2 hb.2 h,fun h=>by rw[h]⟩
theorem a1u:Tryz.prog.eqGuardType Tryz.prog.depth 95=false:=by kernel_rfl
theorem a1k:(Tryz.prog.info? 95).map (·.size)=some 32:=by kernel_rfl
theorem a3v{ops:Array Oper}{S:World→Prop}{op:Oper}{a:Act}(hw:Region.wanted op (yielded ops a.tmps)=true)(x:Operand)(ho:op.op = .load 95 x)
  (b o:Nat) (hx:a.eval x = .pointer (some ⟨b,o,none⟩)) (s:List Int) (hs:s.length=32) (hS:∀w,S w→w.rangeAt b o (u8s s)):YieldsIf Tryz.prog ops S op (.agg (u8s s).toArray) a :=
 yieldsIf_load_mid hw _ x ho b o hx (u8s s) _ hS Tryz.underlying95 rfl (by rw[a1k];simp[u8s,hs])
theorem Rd.rangeLater{w w':World}{b o:Nat}{cs:List Value}(h:w.rangeAt b o cs)(hb:b<w.heap.size)(k:Below w.heap.size w w'):w'.rangeAt b o cs:=fun i u hi=>by
 rw[k.cell (p:=⟨b,o+i,none⟩) hb];exact h i u hi
end sec
namespace dsk
set_option maxRecDepth 100000
open Go.ChangeShapes Go.WideShapes Go.ChangeAt Go.RowKit
open rows
open sec
structure Wr where
 pos:Int
 s:List Int
 kind:Int
 id:Int
 ep:Int
def tagC(t:Int×Int):List Value:=[.int .i64 t.1,.int .i64 t.2]
def Wr.c(x:Wr):List Value := .int .i64 x.pos::(u8s x.s++[.int .i64 x.kind,.int .i64 x.id,.int .i64 x.ep])
def wrsC(ws:List Wr):List Value:=(ws.map Wr.c).flatten
def tagsC(ts:List (Int×Int)):List Value:=(ts.map tagC).flatten
def wf64(n:Int):Prop:=(Lit.int .i64 n).wf=true
def Wr.ok(x:Wr):Prop:=Sec x.s∧wf64 x.pos∧wf64 x.kind∧wf64 x.id∧wf64 x.ep
theorem Wr.c_len{x:Wr}(h:Sec x.s):x.c.length=36:=by simp[Wr.c,u8s,h.1]
theorem a7k{α:Type}(enc:α→List Value)(sz:Nat):∀(l:List α),(∀x∈l,(enc x).length=sz)→((l.map enc).flatten).length=l.length * sz
 | [],_=>by simp
 | x::t,h=>by
  have h1:=h x (List.mem_cons_self ..)
  have h2:=a7k enc sz t fun y hy=>h y (List.mem_cons_of_mem _ hy)
  simp only[List.map_cons,List.flatten_cons,List.length_append,List.length_cons,h1,h2,Nat.succ_mul]
  omega
theorem b4c{α:Type}(enc:α→List Value)(sz:Nat):∀(l:List α),(∀x∈l,(enc x).length=sz)→∀(j:Nat) (hj:j<l.length) (i:Nat),i<sz→((l.map enc).flatten)[j * sz+i]? = (enc l[j])[i]?
 | [],_,j,hj,_,_=>by simp at hj
 | x::t,h,j,hj,i,hi=>by
  have h1:=h x (List.mem_cons_self ..)
  rw[List.map_cons,List.flatten_cons]
  cases j with
  | zero=>rw[Nat.zero_mul,Nat.zero_add,List.getElem?_append_left (by omega)];rfl
  | succ j =>
   rw[List.getElem?_append_right (by rw[h1,Nat.succ_mul];omega),h1,show (j+1) * sz+i-sz=j * sz+i by rw[Nat.succ_mul];omega]
   exact b4c enc sz t (fun y hy=>h y (List.mem_cons_of_mem _ hy)) j (by simpa using hj) i hi
theorem Rd.chunk{α:Type}(enc:α→List Value){sz:Nat}{w:World}{p:Option Addr}{n c:Nat}{l:List α}(h:Rd w sz (.slice p n c) n ((l.map enc).flatten))(he:∀x∈l,(enc x).length=sz)(h0:0<sz){j:Nat}(hj:j<n) :
  ∃b off,p=some ⟨b,off,none⟩∧n≤c∧c≤maxLen∧b<w.heap.size∧l.length=n∧∀j (hj:j<l.length),w.rangeAt b (off+j * sz) (enc l[j]):=by
 have hlen:=h.cells
 rw[a7k enc sz l he] at hlen
 have hl:l.length=n:=Nat.eq_of_mul_eq_mul_right h0 hlen
 rcases h with⟨p',cap',h1,rfl,_⟩|⟨b,off,cap',h1,h2,h3,h4,h5,h6,h7⟩
 ·omega
 ·cases h1
  refine⟨b,off,rfl,h3,h4,h5,hl,fun j hj i u hi => ?_⟩
  have hi':i<sz:=by have:=(List.getElem?_eq_some_iff.1 hi).1;rw[he _ (List.getElem_mem hj)] at this;exact this
  rw[Nat.add_assoc]
  exact h7 _ u (by rw[b4c enc sz l he j hj i hi'];exact hi)
theorem Rd.count{α:Type}(enc:α→List Value){sz:Nat}{w:World}{v:Value}{n:Nat}{l:List α}(h:Rd w sz v n ((l.map enc).flatten))(he:∀x∈l,(enc x).length=sz)(h0:0<sz):l.length=n:=by
 have hlen:=h.cells
 rw[a7k enc sz l he] at hlen
 exact Nat.eq_of_mul_eq_mul_right h0 hlen
structure Touch (S:Nat→Prop) (w w':World):Prop where
 os:w'.os=w.os
 tape:w'.tape=w.tape
 output:w'.output=w.output
 size:w.heap.size≤w'.heap.size
 block:∀k,k<w.heap.size→¬S k→w'.heap[k]? = w.heap[k]?
theorem Touch.refl(S:Nat→Prop)(w:World):Touch S w w:=⟨rfl,rfl,rfl,Nat.le_refl _,fun _ _ _=>rfl⟩
theorem Touch.of_below{S:Nat→Prop}{w w':World}(h:Below w.heap.size w w'):Touch S w w':=⟨h.os,h.tape,h.output,h.size,fun k hk _=>h.block k hk⟩
theorem Touch.trans{S:Nat→Prop}{a b c:World}(h:Touch S a b)(k:Touch S b c):Touch S a c :=
 ⟨k.os.trans h.os,k.tape.trans h.tape,k.output.trans h.output,Nat.le_trans h.size k.size,fun i hi hn=>(k.block i (Nat.lt_of_lt_of_le hi h.size) hn).trans (h.block i hi hn)⟩
theorem Touch.trans'{S S':Nat→Prop}{a b c:World}(h:Touch S a b)(k:Touch S' b c)(hS:∀i,S' i→S i∨a.heap.size≤i):Touch S a c :=
 ⟨k.os.trans h.os,k.tape.trans h.tape,k.output.trans h.output,Nat.le_trans h.size k.size,fun i hi hn=>(k.block i (Nat.lt_of_lt_of_le hi h.size) (fun hs=>by rcases hS i hs with h1|h1;exact hn h1;omega)).trans (h.block i hi hn)⟩
theorem Touch.mono{S S':Nat→Prop}{a b:World}(h:Touch S a b)(hS:∀i,S i→S' i):Touch S' a b:=⟨h.os,h.tape,h.output,h.size,fun k hk hn=>h.block k hk fun hs=>hn (hS k hs)⟩
theorem Touch.below{S:Nat→Prop}{a b:World}{B:Nat}(h:Touch S a b)(hB:B≤a.heap.size)(hS:∀i,S i→B≤i):Below B a b:=⟨h.os,h.tape,h.output,h.size,fun k hk=>h.block k (by omega) fun hs=>by have:=hS k hs;omega⟩
theorem Touch.of_below'{w w':World}{B:Nat}(h:Below B w w'):Touch (fun i=>B≤i) w w':=⟨h.os,h.tape,h.output,h.size,fun k _ hn=>h.block k (by omega)⟩
theorem a0z{w w':World}{g B:Nat}{o:Obj}(h:w.heap[g]? = some o)(hb:Below B w w')(hg:g<B):w'.heap[g]? = some o:=(hb.block g hg).trans h
theorem a6d{w:World}{g:Nat}{o:Obj}(h:w.heap[g]? = some o)(q:Obj):(w.alloc q).heap[g]? = some o:=(Below.heap_alloc _ _ _ (Array.getElem?_eq_some_iff.1 h).1).trans h
theorem Touch.drew{S:Nat→Prop}{a b:World}(h:Touch S a b):Touch S a b.drew:=⟨h.os,h.tape,h.output,h.size,h.block⟩
theorem Touch.alloc{S:Nat→Prop}{a b:World}(h:Touch S a b)(o:Obj):Touch S a (b.alloc o):=h.trans (Touch.of_below (a0b (Below.refl _ _) o))
theorem Touch.setCell{S:Nat→Prop}{a b:World}(h:Touch S a b)(p:Addr)(hp:S p.block)(v:Value):Touch S a (b.setCell p v) :=
 h.trans ⟨rfl,rfl,rfl,by simp[World.setCell],fun k hk hn=>Below.heap_setCell _ _ _ _ fun e=>hn (by rw[e];exact hp)⟩
theorem Touch.cell{S:Nat→Prop}{a b:World}(h:Touch S a b){p:Addr}(hp:p.block<a.heap.size)(hs:¬S p.block):b.cell? p=a.cell? p:=World.cell?_of_block (w:=a) (h.block p.block hp hs)
theorem Touch.range{S:Nat→Prop}{a b:World}(h:Touch S a b){g o:Nat}{cs:List Value}(hg:g<a.heap.size)(hs:¬S g)(hr:a.rangeAt g o cs):b.rangeAt g o cs:=fun i u hi=>by
 rw[h.cell (p:=⟨g,o+i,none⟩) hg hs]
 exact hr i u hi
def Keeps(S:Nat→Prop)(w w':World):Prop:=w.heap.size≤w'.heap.size∧∀k,k<w.heap.size→S k→w'.heap[k]? = w.heap[k]?
theorem Touch.keeps{S T:Nat→Prop}{w w':World}(h:Touch T w w')(hd:∀k,S k→¬T k):Keeps S w w':=⟨h.size,fun k hk hs=>h.block k hk (hd k hs)⟩
def InS(S:Nat→Prop)(v:Value):Prop:=∀a n c,v = .slice (some a) n c→0<n→S a.block
theorem Rd.kept{S:Nat→Prop}{w w':World}{sz n:Nat}{v:Value}{cs:List Value}(h:Rd w sz v n cs)(hv:InS S v)(k:Keeps S w w'):Rd w' sz v n cs:=by
 rcases h with h|⟨b,off,cap,h1,h2,h2a,h2b,h3,h4,h5⟩
 ·exact Or.inl h
 ·refine Or.inr ⟨b,off,cap,h1,h2,h2a,h2b,Nat.lt_of_lt_of_le h3 k.1,h4,fun i u hi => ?_⟩
  rw[World.cell?_of_block (w:=w) (a:=⟨b,off+i,none⟩) (k.2 b h3 (hv _ _ _ h1 h2))]
  exact h5 i u hi
theorem InS.mono{S T:Nat→Prop}{v:Value}(h:InS S v)(k:∀i,S i→T i):InS T v:=fun a n c hv hn=>k _ (h a n c hv hn)
theorem Rd.set{w:World}{sz n g i:Nat}{u v:Value}{cs:List Value}(h:Rd w sz v n cs)(hv:InS (· ≠ g) v):Rd (w.setCell ⟨g,i,none⟩ u) sz v n cs :=
 Rd.kept h hv ⟨by simp[World.setCell],fun k _ hk=>Below.heap_setCell _ _ _ _ hk⟩
theorem Rd.drewN{w:World}{sz n:Nat}{v:Value}{cs:List Value}(h:Rd w sz v n cs)(k:Nat):Rd (w.drewN k) sz v n cs:=h.later (a3r (Below.refl _ _) k)
theorem Keeps.set{S:Nat→Prop}{w:World}{g i:Nat}(hs:∀k,S k→k≠g)(u:Value):Keeps S w (w.setCell ⟨g,i,none⟩ u):=⟨by simp[World.setCell],fun k _ hk=>Below.heap_setCell _ _ _ _ (hs k hk)⟩
theorem Keeps.trans{S:Nat→Prop}{a b c:World}(h:Keeps S a b)(k:Keeps S b c):Keeps S a c:=⟨Nat.le_trans h.1 k.1,fun i hi hs=>(k.2 i (Nat.lt_of_lt_of_le hi h.1) hs).trans (h.2 i hi hs)⟩
theorem Keeps.of_below{S:Nat→Prop}{w w':World}(h:Below w.heap.size w w'):Keeps S w w':=⟨h.size,fun k hk _=>h.block k hk⟩
theorem Keeps.refl(S:Nat→Prop)(w:World):Keeps S w w:=⟨Nat.le_refl _,fun _ _ _=>rfl⟩
theorem Keeps.mono{S T:Nat→Prop}{a b:World}(h:Keeps S a b)(k:∀i,T i→S i):Keeps T a b:=⟨h.1,fun i hi ht=>h.2 i hi (k i ht)⟩
theorem a0c{w:World}{g:Nat}{cs:Array Value}{t:TypeId}(h:w.heap[g]? = some (.cells cs t (0,0)))(i:Nat)(v:Value)(hi:cs[i]? = some v):w.cell? ⟨g,i,none⟩=some v:=by
 rw[cell_of_row _ _ i _ _ (0,0) h,hi]
theorem a0d{w:World}{g:Nat}{cs:Array Value}{t:TypeId}(h:w.heap[g]? = some (.cells cs t (0,0)))(i:Nat):w.frozen? ⟨g,i,none⟩=false:=by
 simp[World.frozen?,h]
theorem a0g{w:World}{g i:Nat}{cs:Array Value}{t:TypeId}(h:w.heap[g]? = some (.cells cs t (0,0)))(v:Value):(w.setCell ⟨g,i,none⟩ v).heap[g]? = some (.cells (cs.setIfInBounds i v) t (0,0)):=by
 rw[setCell_eq_setRow w g i cs t (0,0) v h]
 exact setRow_heap w g _ _ _ _ h
end dsk
namespace sec
set_option maxRecDepth 100000
open Go.ChangeShapes Go.WideShapes Go.ChangeAt Go.RowKit
open rows
theorem b0e{w:World}{p:Option Addr}{n c:Nat}{ss:List (List Int)}(h:Rd w 32 (.slice p n c) n (cellsOf ss))(hs:Secs ss){j:Nat}(hj:j<n) :
  ∃b off,p=some ⟨b,off,none⟩∧n≤c∧c≤maxLen∧b<w.heap.size∧ss.length=n∧∀j (hj:j<ss.length),w.rangeAt b (off+j * 32) (u8s ss[j]):=by
 have hlen:=h.cells
 rw[a0y hs] at hlen
 have hl:ss.length=n:=by omega
 rcases h with⟨p',cap',h1,rfl,_⟩|⟨b,off,cap',h1,h2,h3,h4,h5,h6,h7⟩
 ·omega
 ·cases h1
  refine⟨b,off,rfl,h3,h4,h5,hl,fun j hj i u hi => ?_⟩
  rw[Nat.add_assoc]
  exact h7 _ u (cellsOf_at hs hj i u hi)
end sec
namespace dsk
set_option maxRecDepth 100000
open Go.ChangeShapes Go.WideShapes Go.ChangeAt Go.RowKit
open rows
open sec
theorem rin(p:Option Addr)(n c:Nat)(zs:List Int)(q:Int)(w:World)(h1:Rd w 1 (.slice p n c) n (i64s zs))(l1:n≤1000) :
  Calls Tryz.prog 185 #[.slice p n c,.int .i64 q] w fun e w'=>e = .returned (.bool (decide (q∈zs)))∧w=w':=by
 have hzl:zs.length=n:=by have:=h1.cells;simpa [i64s] using this
 have H1:=ι h1
 have HZ:=ι hzl
 have hb1:(n:Int)≤1000:=by omega
 clear h1 hzl
 obtain⟨d,hd⟩:∃d,decide (q∈zs)=d:=⟨_,rfl⟩
 have HD:=ι hd
 rw[hd]
 clear hd
 go_enter Tryz.func185,Tryz.ntmps185
 go_wp2
 go_loop [5] (fun iv=>∃(j:Nat),j≤n∧Hid (∀i,i<j→zs[i]? ≠ some q)∧iv = .int .i64 (j:Int)) (fun iv=>n-(intOf iv).toNat)
 case atStart=>exact⟨0,by omega,ι (by omega),rfl⟩
 case round =>
  obtain⟨j,hj,HN,rfl⟩:=hrel
  by_cases ha:j<n
  ·have ha1:(j:Int)<n:=by omega
   obtain⟨b1,o1,rfl,hc1,hm1,hh1,hl1,HR1⟩:=H1.out.at ha
   have hr1:=HR1 j ha
   have HX:Hid (zs[j]? = some (zs.getD j 0)):=ι (by rw[List.getElem?_eq_getElem (by omega)];simp[List.getD,show j<zs.length by omega])
   generalize zs.getD j 0=x at *
   clear HR1 hl1
   by_cases hx:x=q
   ·have hd:d=true:=by rw[← HD.out];exact decide_eq_true (List.mem_iff_getElem?.2 ⟨j,by rw[HX.out,hx]⟩)
    subst hd
    subst hx
    go_wp2_with fail
    go_ret
    exact⟨rfl,rfl⟩
   ·have hx1:(x == q)=false:=by simpa using hx
    go_wp2_with fail
    go_round
    case rel=>exact⟨j+1,by omega,ι (fun i hi=>by
     rcases Nat.lt_or_ge i j with h|h
     ·exact HN.out i h
     ·obtain rfl:i=j:=by omega
      rw[HX.out];exact fun e=>hx (Option.some.inj e)),by go_num⟩
    case measure=>simp[intOf];omega
  ·have hd:d=false:=by
    rw[← HD.out]
    refine decide_eq_false fun hm => ?_
    obtain⟨i,hi⟩:=List.mem_iff_getElem?.1 hm
    have:=(List.getElem?_eq_some_iff.1 hi).1
    exact HN.out i (by have:=HZ.out;omega) hi
   subst hd
   go_wp2_with fail
   go_ret
   exact⟨rfl,rfl⟩
structure St where
 safe:List (List Int)
 wait:List Wr
 ep:Int
 log:List (Int×Wr×List (Int×Int))
 bad:List Int
 asked:Int
abbrev Ev:=Int×Wr×List (Int×Int)
def evC(e:Ev)(v:Value):List Value := .int .i64 e.1::(e.2.1.c++[v])
structure EvsIn (S:Nat→Prop) (w:World) (v:Value) (es:List Ev) (n:Nat) (vs:List Value):Prop where
 len:vs.length=es.length
 cells:Rd w 38 v n ((es.zip vs).map fun x=>evC x.1 x.2).flatten
 at_:InS S v
 tags:∀i (h:i<es.length),∃p c,vs[i]? = some (.slice p (es[i]).2.2.length c)∧Rd w 2 (.slice p (es[i]).2.2.length c) (es[i]).2.2.length (tagsC (es[i]).2.2)∧InS S (.slice p (es[i]).2.2.length c)
structure RefAt (w:World) (S:Nat→Prop) (g:Nat) (st:St) (vs vw vl vb:Value):Prop where
 row:w.heap[g]? = some (.cells #[vs,vw,.int .i64 st.ep,vl,vb,.int .i64 st.asked] 56 (0,0))
 own:S g
 safe:Rd w 32 vs st.safe.length (cellsOf st.safe)
 safeS:InS (fun b=>S b∧b≠g) vs
 wait:Rd w 36 vw st.wait.length (wrsC st.wait)
 waitS:InS (fun b=>S b∧b≠g) vw
 log:∃es,EvsIn (fun b=>S b∧b≠g) w vl st.log st.log.length es
 bad:Rd w 1 vb st.bad.length (i64s st.bad)
 badS:InS (fun b=>S b∧b≠g) vb
theorem rfails(S:Nat→Prop)(g:Nat)(st:St)(vs vw vl vb:Value)(w:World)(h:RefAt w S g st vs vw vl vb)(hb:st.bad.length≤1000)(ha:0≤st.asked∧st.asked≤1000) :
  Calls Tryz.prog 141 #[.pointer (some ⟨g,0,none⟩)] w fun e w'=>e = .returned (.bool (decide (st.asked∈st.bad)))∧∃k,w'=(w.setCell ⟨g,5,none⟩ (.int .i64 (st.asked+1))).drewN k:=by
 have c0:=a0c h.row 0 vs rfl
 have c4:=a0c h.row 4 vb rfl
 have c5:=a0c h.row 5 (.int .i64 st.asked) rfl
 have z5:=a0d h.row 5
 obtain⟨a0,a1⟩:=ha
 have HR:=ι h
 obtain⟨pb,cb,hvb⟩:∃pb cb,vb = .slice pb st.bad.length cb:=by
  rcases h.bad with⟨p',cap',h1,h2,_⟩|⟨b,off,cap',h1,_⟩
  ·exact⟨_,_,by rw[h1,h2]⟩
  ·exact⟨_,_,h1⟩
 subst hvb
 have HI:=ι fun w' (hr:Rd w' 1 (.slice pb st.bad.length cb) st.bad.length (i64s st.bad))=>rin pb st.bad.length cb st.bad st.asked w' hr hb
 obtain⟨q,hq⟩:∃q,decide (st.asked∈st.bad)=q:=⟨_,rfl⟩
 rw[hq] at HI ⊢
 generalize st.asked=a at *
 clear h hb hq
 go_enter Tryz.func141,Tryz.ntmps141
 go_wp2_with fail
 go_quiet ((go_at_call 185;exact Calls.quiet_of_same ((HI.out _ (Rd.drewN (Rd.set HR.out.bad (HR.out.badS.mono fun _ h=>h.2)) _)).mono fun e w' ⟨x,y⟩=>⟨x,y.symm⟩)))
 go_wp2_with fail
 go_ret
 exact⟨rfl,_,rfl⟩
end dsk
namespace dsk
set_option maxRecDepth 100000
open Go.ChangeShapes Go.WideShapes Go.ChangeAt Go.RowKit
open rows
open sec
theorem c7d(d:Nat)(w:World){a b:List Int}(ha:Sec a)(hb:Sec b):(Op.equalIn (d+2) 95 (.agg (u8s a).toArray) (.agg (u8s b).toArray)).run Tryz.prog w = .ok (decide (a=b)) w:=by
 rw[a6w ha.2,a6w hb.2,run_equalIn_bytes w d 95 5 32 Tryz.underlying95 Tryz.underlying5 size8 _ _ (by simp[ha.1]) (by simp[hb.1])]
 congr 1
 rw[Bool.eq_iff_iff]
 simp only[beq_iff_eq,decide_eq_true_eq]
 exact⟨fun h=>bytes_inj ha.2 hb.2 h,fun h=>by rw[h]⟩
theorem b8j:Tryz.prog.underlying 97=some (.struct (Tryz.prog.fieldsOf 97)):=by kernel_rfl
theorem b3l:Tryz.prog.underlying 99=some (.struct (Tryz.prog.fieldsOf 99)):=by kernel_rfl
theorem a2t:Tryz.prog.underlying 3=some (.int .i64):=Tryz.underlying3
theorem c3c:(Tryz.prog.fieldsOf 97).toList.map (fun f=>(f.name,f.type,f.offset))=[("Kind", 3,0),("ID", 3,1)]:=by kernel_rfl
theorem c6d:(Tryz.prog.fieldsOf 99).toList.map (fun f=>(f.name,f.type,f.offset))=[("At", 3,0),("S", 95,1),("Tag", 97,33),("Epoch", 3,35)]:=by kernel_rfl
theorem a2d(w:World)(xs:Array Value)(i:Nat)(v:Value)(h:xs[i]? = some v):(part 3 xs i).run Tryz.prog w = .ok v w:=by
 simp[part,isAgg,run_underlying a2t,h]
theorem d1q(w:World):(sizeOf 95).run Tryz.prog w = .ok 32 w:=by kernel_rfl
theorem c9o(w:World):(sizeOf 97).run Tryz.prog w = .ok 2 w:=by kernel_rfl
theorem c0c(w:World)(xs:Array Value)(i:Nat):(part 95 xs i).run Tryz.prog w = .ok (.agg (xs.extract i (i+32))) w:=by
 simp[part,isAgg,run_underlying Tryz.underlying95,d1q]
theorem c0o(w:World)(xs:Array Value)(i:Nat):(part 97 xs i).run Tryz.prog w = .ok (.agg (xs.extract i (i+2))) w:=by
 simp[part,isAgg,run_underlying b8j,c9o]
theorem a1g(d:Nat)(xs ys:Array Value)(f:Field)(fs:List Field)(hn:f.name ≠ "_")(w:World){a b:Value}{r:Bool}(ha:(part f.type xs f.offset).run Tryz.prog w = .ok a w)(hb:(part f.type ys f.offset).run Tryz.prog w = .ok b w)
  (hr:(Op.equalIn d f.type a b).run Tryz.prog w = .ok r w):(Op.eqFields d xs ys (f::fs)).run Tryz.prog w=if r=true then (Op.eqFields d xs ys fs).run Tryz.prog w else .ok false w:=by
 simp only[Op.eqFields,hn,ne_eq,not_false_eq_true,if_true,Sem.run_bind,ha,hb,hr,Result.andThen_ok]
 cases r<;>simp
theorem c5r(d:Nat)(w:World)(k i k' i':Int):(Op.equalIn (d+2) 97 (.agg #[.int .i64 k,.int .i64 i]) (.agg #[.int .i64 k',.int .i64 i'])).run Tryz.prog w = .ok (k == k' && i == i') w:=by
 have hs:Tryz.prog.stoodInHeld 97=false:=by kernel_rfl
 rw[run_equalIn_struct w (d+1) _ _ _ b8j hs]
 have hf:=c3c
 match hq:(Tryz.prog.fieldsOf 97).toList with
 | []=>rw[hq] at hf;simp at hf
 | [_]=>rw[hq] at hf;simp at hf
 | [f,g] =>
  rw[hq] at hf
  simp only[List.map_cons,List.map_nil,List.cons.injEq,Prod.mk.injEq,and_true] at hf
  obtain⟨⟨n1,t1,o1⟩,n2,t2,o2⟩:=hf
  rw[a1g (d+1) _ _ f [g] (by rw[n1];decide) w (a := .int .i64 k) (b := .int .i64 k') (r:=k == k') (by rw[t1,o1];exact a2d w _ 0 _ rfl) (by rw[t1,o1];exact a2d w _ 0 _ rfl) (by rw[t1];exact run_equalIn_int w d _ _ _ _ _ a2t)]
  rw[a1g (d+1) _ _ g [] (by rw[n2];decide) w (a := .int .i64 i) (b := .int .i64 i') (r:=i == i') (by rw[t2,o2];exact a2d w _ 1 _ rfl) (by rw[t2,o2];exact a2d w _ 1 _ rfl) (by rw[t2];exact run_equalIn_int w d _ _ _ _ _ a2t)]
  cases h1:(k == k')<;>cases h2:(i == i')<;>simp[Op.eqFields]
 | _::_::_::_=>rw[hq] at hf;simp at hf
def Wr.eqB(x y:Wr):Bool:=x.pos == y.pos && (decide (x.s=y.s) && ((x.kind == y.kind && x.id == y.id) && x.ep == y.ep))
theorem Wr.eqB_self(x:Wr):x.eqB x=true:=by simp[Wr.eqB]
theorem c8g(x:Wr):x.c.toArray[0]? = some (.int .i64 x.pos):=rfl
theorem c1d{x:Wr}(h:Sec x.s):x.c.toArray[35]? = some (.int .i64 x.ep):=by
 have hl:(u8s x.s).length=32:=by simp[u8s,h.1]
 simp only[Wr.c,List.getElem?_toArray,List.getElem?_cons_succ]
 rw[List.getElem?_append_right (by omega),hl]
 rfl
theorem d2d{x:Wr}(h:Sec x.s):x.c.toArray.extract 1 (1+32)=(u8s x.s).toArray:=by
 have hl:(u8s x.s).length=32:=by simp[u8s,h.1]
 apply Array.ext'
 simp only[Wr.c,List.extract_toArray,List.extract,List.drop_succ_cons,List.drop_zero]
 rw[List.take_append_of_le_length (by omega),List.take_of_length_le (by omega)]
theorem d1x{x:Wr}(h:Sec x.s):x.c.toArray.extract 33 (33+2) = #[.int .i64 x.kind,.int .i64 x.id]:=by
 have hl:(u8s x.s).length=32:=by simp[u8s,h.1]
 apply Array.ext'
 simp only[Wr.c,List.extract_toArray,List.extract,List.drop_succ_cons]
 rw[List.drop_append,List.drop_of_length_le (by omega),hl]
 rfl
theorem d0c(d:Nat)(w:World){x y:Wr}(hx:Sec x.s)(hy:Sec y.s):(Op.equalIn (d+3) 99 (.agg x.c.toArray) (.agg y.c.toArray)).run Tryz.prog w = .ok (x.eqB y) w:=by
 have hs:Tryz.prog.stoodInHeld 99=false:=by kernel_rfl
 rw[run_equalIn_struct w (d+2) _ _ _ b3l hs]
 have hf:=c6d
 match hq:(Tryz.prog.fieldsOf 99).toList with
 | []=>rw[hq] at hf;simp at hf
 | [_]=>rw[hq] at hf;simp at hf
 | [_,_]=>rw[hq] at hf;simp at hf
 | [_,_,_]=>rw[hq] at hf;simp at hf
 | [f,g,h,k] =>
  rw[hq] at hf
  simp only[List.map_cons,List.map_nil,List.cons.injEq,Prod.mk.injEq,and_true] at hf
  obtain⟨⟨n1,t1,o1⟩,⟨n2,t2,o2⟩,⟨n3,t3,o3⟩,n4,t4,o4⟩:=hf
  rw[a1g (d+2) _ _ f _ (by rw[n1];decide) w (a := .int .i64 x.pos) (b := .int .i64 y.pos) (r:=x.pos == y.pos) (by rw[t1,o1];exact a2d w _ 0 _ (c8g x)) (by rw[t1,o1];exact a2d w _ 0 _ (c8g y)) (by rw[t1];exact run_equalIn_int w (d+1) _ _ _ _ _ a2t)]
  rw[a1g (d+2) _ _ g _ (by rw[n2];decide) w (a := .agg (u8s x.s).toArray) (b := .agg (u8s y.s).toArray) (r:=decide (x.s=y.s)) (by rw[t2,o2,c0c,d2d hx]) (by rw[t2,o2,c0c,d2d hy]) (by rw[t2];exact c7d d w hx hy)]
  rw[a1g (d+2) _ _ h _ (by rw[n3];decide) w (a := .agg #[.int .i64 x.kind,.int .i64 x.id]) (b := .agg #[.int .i64 y.kind,.int .i64 y.id]) (r:=x.kind == y.kind && x.id == y.id) (by rw[t3,o3,c0o,d1x hx]) (by rw[t3,o3,c0o,d1x hy]) (by rw[t3];exact c5r d w _ _ _ _)]
  rw[a1g (d+2) _ _ k [] (by rw[n4];decide) w (a := .int .i64 x.ep) (b := .int .i64 y.ep) (r:=x.ep == y.ep) (by rw[t4,o4];exact a2d w _ 35 _ (c1d hx)) (by rw[t4,o4];exact a2d w _ 35 _ (c1d hy)) (by rw[t4];exact run_equalIn_int w (d+1) _ _ _ _ _ a2t)]
  unfold Wr.eqB
  cases h1:(x.pos == y.pos)<;>cases h2:decide (x.s=y.s)<;>cases h3:(x.kind == y.kind && x.id == y.id)<;>cases h4:(x.ep == y.ep)<;>simp[Op.eqFields]
 | _::_::_::_::_::_=>rw[hq] at hf;simp at hf
theorem eqIn_wr(w:World){x y:Wr}(hx:Sec x.s)(hy:Sec y.s):(Op.equalIn 10000 99 (.agg x.c.toArray) (.agg y.c.toArray)).run Tryz.prog w = .ok (x.eqB y) w:=d0c 9997 w hx hy
theorem d1a:Tryz.prog.eqGuardType Tryz.prog.depth 99=false:=by kernel_rfl
end dsk
namespace dsk
set_option maxRecDepth 100000
open Go.ChangeShapes Go.WideShapes Go.ChangeAt Go.RowKit
open rows
open sec
theorem c6s(p1 p2:Option Addr)(n c1 c2:Nat)(ts:List (Int×Int))(w:World)(h1:Rd w 2 (.slice p1 n c1) n (tagsC ts))(h2:Rd w 2 (.slice p2 n c2) n (tagsC ts))(l1:n≤1000) :
  Calls Tryz.prog 83 #[.slice p1 n c1,.slice p2 n c2] w fun e w'=>e = .returned (.bool true)∧∃k,w'=w.drewN k:=by
 have H1:=ι h1
 have H2:=ι h2
 have HZ:Hid (ts.length=n):=ι (Rd.count tagC h1 (fun x _=>rfl) (by decide))
 have hb1:(n:Int)≤1000:=by omega
 clear h1 h2
 go_enter Tryz.func83,Tryz.ntmps83
 go_wp2
 go_loopw [5] (fun iv wr=>∃(j m:Nat),j≤n∧iv = .int .i64 (j:Int)∧wr=w.drewN m) (fun iv _=>n-(intOf iv).toNat)
 case atStart=>exact⟨0,0,by omega,rfl,rfl⟩
 case round =>
  obtain⟨j,m,hj,rfl,rfl⟩:=hrel
  by_cases ha:j<n
  ·have ha1:(j:Int)<n:=by omega
   have hjl:j<ts.length:=by rw[HZ.out];exact ha
   obtain⟨b1,o1,rfl,hc1,hm1,hh1,hl1,HR1⟩:=Rd.chunk tagC H1.out (fun x _=>rfl) (by decide) ha
   obtain⟨b2,o2,rfl,hc2,hm2,hh2,hl2,HR2⟩:=Rd.chunk tagC H2.out (fun x _=>rfl) (by decide) ha
   have hr1:=HR1 j hjl
   have hr2:=HR2 j hjl
   generalize ts[j]=x at *
   obtain⟨x1,x2⟩:=x
   have hx1:=hr1 0 _ rfl
   have hx2:=hr1 1 _ rfl
   have hy1:=hr2 0 _ rfl
   have hy2:=hr2 1 _ rfl
   rw[Nat.add_zero] at hx1 hy1
   clear HR1 HR2 hl1 hl2 hr1 hr2
   go_wp2_with fail
   go_region
   go_wp2_with fail
   go_roundw
   case rel=>exact⟨j+1,m+1,by omega,by go_num,by simp⟩
   case measure=>simp[intOf];omega
  ·have hjm:j=n:=by omega
   go_wp2_with fail
   go_ret
   exact⟨rfl,_,rfl⟩
theorem c3g{ops:Array Oper}{S:World→Prop}{op:Oper}{a:Act}(hw:Region.wanted op (yielded ops a.tmps)=true)(T r:TypeId)(x y:Operand)(ho:op.op = .binOp .neq T x y r)
  (xs ys:Array Value) (hx:a.eval x = .agg xs) (hy:a.eval y = .agg ys) (hg:Tryz.prog.eqGuardType Tryz.prog.depth T=false) (q:Bool) (he:∀w,(Op.equalIn 10000 T (.agg xs) (.agg ys)).run Tryz.prog w = .ok q w):YieldsIf Tryz.prog ops S op (.bool (!q)) a :=
 .inl ⟨hw,fun w _=>by
  unfold execOp
  simp only[ho,hx,hy,Sem.run_bind,run_eqGuard_agg w .neq T x y xs ys hg,run_neq_struct,he,Result.andThen_ok,Sem.run_pure]⟩
theorem a0l{ops:Array Oper}{S:World→Prop}{op:Oper}{a:Act}(hw:Region.wanted op (yielded ops a.tmps)=true)(T:TypeId)(d:TypeDesc)(hu:Tryz.prog.underlying T=some d)(hd:d.isRow=false)(x:Operand)(ho:op.op = .load T x)
  (b o:Nat) (hx:a.eval x = .pointer (some ⟨b,o,none⟩)) (v:Value) (hS:∀w,S w→w.cell? ⟨b,o,none⟩=some v):YieldsIf Tryz.prog ops S op v a :=
 .inl ⟨hw,fun w h=>by
  have hagg:(isAgg T).run Tryz.prog w = .ok false w:=by
   unfold isAgg
   rw[Sem.run_bind,run_underlying hu w]
   cases d<;>simp_all
  unfold execOp
  simp only[ho,hx,Instr.loadAt,Instr.sureAddr,Sem.run_bind,Sem.run_pure,Result.andThen_ok,loadVar,hagg,Bool.false_eq_true,if_false]
  simp[hS w h]⟩
theorem b0s:(Tryz.prog.info? 99).map (·.size)=some 36:=by kernel_rfl
theorem b6a{ops:Array Oper}{S:World→Prop}{op:Oper}{a:Act}(hw:Region.wanted op (yielded ops a.tmps)=true)(x:Operand)(ho:op.op = .load 99 x)
  (b o:Nat) (hx:a.eval x = .pointer (some ⟨b,o,none⟩)) (y:Wr) (hs:Sec y.s) (hS:∀w,S w→w.rangeAt b o y.c):YieldsIf Tryz.prog ops S op (.agg y.c.toArray) a :=
 yieldsIf_load_mid hw _ x ho b o hx y.c _ hS b3l rfl (by rw[b0s,Wr.c_len hs])
theorem und_wrs:Tryz.prog.underlying 54=some (.slice 99):=Tryz.underlying54
theorem d1b:Tryz.prog.underlying 52=some (.slice 143):=Tryz.underlying52
theorem c1g:Tryz.prog.underlying 22=some (.slice 95):=Tryz.underlying22
theorem Touch.drewL{S:Nat→Prop}{a b:World}(h:Touch S a.drew b):Touch S a b:=⟨h.os,h.tape,h.output,h.size,h.block⟩
theorem c1c:Tryz.prog.underlying 141=some (.slice 97):=Tryz.underlying141
theorem a4u{e:Ev}{v:Value}(h:Sec e.2.1.s):(evC e v).length=38:=by simp[evC,Wr.c_len h]
theorem b7d{w:World}{b o k:Nat}{cs:List Value}(h:w.rangeAt b o cs):w.rangeAt b (o+k) (cs.drop k):=fun j u hj=>by
 rw[List.getElem?_drop] at hj
 rw[Nat.add_assoc]
 exact h (k+j) u hj
theorem b2n{w:World}{b o:Nat}{l r:List Value}(h:w.rangeAt b o (l++r)):w.rangeAt b o l:=fun j u hj=>h j u (by rw[List.getElem?_append_left (List.getElem?_eq_some_iff.1 hj).1];exact hj)
theorem ev_at{S:Nat→Prop}{w:World}{p:Option Addr}{c n:Nat}{es:List Ev}{vs:List Value}(h:EvsIn S w (.slice p n c) es n vs)(hs:∀e∈es,Sec e.2.1.s){j:Nat}(hj:j<n) :
  ∃b o,p=some ⟨b,o,none⟩∧n≤c∧c≤maxLen∧b<w.heap.size∧∃hl:j<es.length,∃pt ct,w.cell? ⟨b,o+j * 38,none⟩=some (.int .i64 es[j].1)∧w.rangeAt b (o+j * 38+1) es[j].2.1.c ∧
   w.cell? ⟨b,o+j * 38+37,none⟩=some (.slice pt es[j].2.2.length ct)∧Rd w 2 (.slice pt es[j].2.2.length ct) es[j].2.2.length (tagsC es[j].2.2):=by
 have he:∀x∈es.zip vs,(evC x.1 x.2).length=38:=fun x hx=>a4u (hs _ (List.of_mem_zip hx).1)
 obtain⟨b,o,rfl,h1,h2,h3,h4,h5⟩:=Rd.chunk (fun x:Ev×Value=>evC x.1 x.2) h.cells he (by decide) hj
 have hl:j<es.length:=by simp[h.len] at h4;omega
 have hlz:j<(es.zip vs).length:=by omega
 obtain⟨pt,ct,hv,hr,_⟩:=h.tags j hl
 have hvl:j<vs.length:=by rw[h.len];exact hl
 have hr1:=h5 j hlz
 have hz:(es.zip vs)[j]=(es[j],vs[j]):=by simp
 have hvj:vs[j] = .slice pt es[j].2.2.length ct:=by
  rw[List.getElem?_eq_getElem hvl] at hv
  exact Option.some.inj hv
 rw[hz] at hr1
 have hcl:=Wr.c_len (hs _ (List.getElem_mem hl))
 refine⟨b,o,rfl,h1,h2,h3,hl,pt,ct,?_,?_,?_,hr⟩
 ·have:=hr1 0 _ rfl
  simpa using this
 ·have:=b7d (k:=1) hr1
  exact b2n this
 ·refine hr1 37 _ ?_
  show (evC es[j] vs[j])[37]? = _
  rw[evC,List.getElem?_cons_succ,List.getElem?_append_right (by omega),hcl,hvj]
  rfl
theorem b9x(S1 S2:Nat→Prop)(p1 p2:Option Addr)(n c1 c2:Nat)(es:List Ev)(vs1 vs2:List Value)(w:World)(hs:∀e∈es,Sec e.2.1.s)(ht:∀e∈es,e.2.2.length≤1000)(h1:EvsIn S1 w (.slice p1 n c1) es n vs1)(h2:EvsIn S2 w (.slice p2 n c2) es n vs2)(l1:n≤1000) :
  Calls Tryz.prog 25 #[.slice p1 n c1,.slice p2 n c2] w fun e w'=>e = .returned (.bool true)∧∃k,w'=w.drewN k:=by
 have H1:=ι h1
 have H2:=ι h2
 have HS:=ι hs
 have HT:=ι ht
 have hb1:(n:Int)≤1000:=by omega
 clear h1 h2 hs ht
 go_enter Tryz.func25,Tryz.ntmps25
 go_wp2
 go_loopw [5] (fun iv wr=>∃(j m:Nat),j≤n∧iv = .int .i64 (j:Int)∧wr=w.drewN m) (fun iv _=>n-(intOf iv).toNat)
 case atStart=>exact⟨0,0,by omega,rfl,rfl⟩
 case round =>
  obtain⟨j,m,hj,rfl,rfl⟩:=hrel
  by_cases ha:j<n
  ·have ha1:(j:Int)<n:=by omega
   obtain⟨b1,o1,rfl,hc1,hm1,hh1,hl,pt1,ct1,hk1,hw1,hv1,hg1⟩:=ev_at H1.out HS.out ha
   obtain⟨b2,o2,rfl,hc2,hm2,hh2,_,pt2,ct2,hk2,hw2,hv2,hg2⟩:=ev_at H2.out HS.out ha
   have HW1:=ι hw1
   have HW2:=ι hw2
   have HV1:=ι hv1
   have HV2:=ι hv2
   have HK1:=ι hk1
   have HK2:=ι hk2
   have hsx:=ι (HS.out _ (List.getElem_mem hl))
   have hlt:=HT.out _ (List.getElem_mem hl)
   have HTS:=ι fun q=>c6s pt1 pt2 _ ct1 ct2 es[j].2.2 (w.drewN q) (Rd.drewN hg1 q) (Rd.drewN hg2 q) hlt
   generalize es[j]=e at *
   obtain⟨k,x,ts⟩:=e
   dsimp only at HW1 HW2 HV1 HV2 HK1 HK2 hsx hlt HTS
   have HG1:=ι hg1
   have HG2:=ι hg2
   dsimp only at HG1 HG2
   clear hw1 hw2 hk1 hk2 hv1 hv2 hg1 hg2
   generalize ts.length=tl at *
   go_wp2_with fail
   refine wp_region_held_drew (S:=fun w'=>∃k,w'=w.drewN k) (by kernel_rfl) ⟨m+1,by simp⟩ (fun hH0 => ?_)
   refine tk 0 rfl ?_
   refine tk 1 rfl ?_
   refine tk 2 rfl ?_
   refine tk 3 rfl ?_
   refine tkv 4 rfl (a0l (by rfl) 3 _ a2t rfl _ rfl b1 (o1+j * 38) rfl (.int .i64 k) (by rintro w' ⟨q,rfl⟩;exact HK1.out)) ?_
   refine tk 5 rfl ?_
   refine tk 6 rfl ?_
   refine tk 7 rfl ?_
   refine tk 8 rfl ?_
   refine tkv 9 rfl (a0l (by rfl) 3 _ a2t rfl _ rfl b2 (o2+j * 38) rfl (.int .i64 k) (by rintro w' ⟨q,rfl⟩;exact HK2.out)) ?_
   refine tk 10 rfl ?_
   refine tk 11 rfl ?_
   refine tk 12 rfl ?_
   refine tk 13 rfl ?_
   refine tk 14 rfl ?_
   refine tk 15 rfl ?_
   refine tkv 16 rfl (b6a (by rfl) _ rfl b1 (o1+j * 38+1) rfl x hsx.out (by rintro w' ⟨q,rfl⟩;exact HW1.out)) ?_
   refine tk 17 rfl ?_
   refine tk 18 rfl ?_
   refine tk 19 rfl ?_
   refine tk 20 rfl ?_
   refine tkv 21 rfl (b6a (by rfl) _ rfl b2 (o2+j * 38+1) rfl x hsx.out (by rintro w' ⟨q,rfl⟩;exact HW2.out)) ?_
   refine tkv 22 rfl (c3g (by rfl) 99 99 _ _ rfl x.c.toArray x.c.toArray rfl rfl d1a true (fun w'=>by rw[eqIn_wr w' hsx.out hsx.out,Wr.eqB_self])) ?_
   refine tk 23 rfl ?_
   refine tk 24 rfl ?_
   refine tk 25 rfl ?_
   refine tk 26 rfl ?_
   refine tk 27 rfl ?_
   refine tk 28 rfl ?_
   refine tkv 29 rfl (a0l (by rfl) 141 _ c1c rfl _ rfl b1 (o1+j * 38+37) rfl (.slice pt1 tl ct1) (by rintro w' ⟨q,rfl⟩;exact HV1.out)) ?_
   refine tk 30 rfl ?_
   refine tk 31 rfl ?_
   refine tk 32 rfl ?_
   refine tk 33 rfl ?_
   refine tkv 34 rfl (a0l (by rfl) 141 _ c1c rfl _ rfl b2 (o2+j * 38+37) rfl (.slice pt2 tl ct2) (by rintro w' ⟨q,rfl⟩;exact HV2.out)) ?_
   refine rd 35 rfl (fun K hK => ?_)
   go_simp
   refine(HTS.out (m+1)).mono ?_
   rintro e w1 ⟨rfl,q1,rfl⟩
   dsimp only
   refine hK.out _ _ ⟨m+1+q1,by simp⟩ (fun hHeld => ?_)
   clear hK K
   try simp only[Act.put,List.setIfInBounds_toArray,List.set_cons_zero,List.set_cons_succ]
   refine tk 36 rfl ?_
   refine tk 37 rfl ?_
   refine wpAnyH_done (by kernel_rfl) ?_ _
   go_wp2_with fail
   go_roundw
   case rel=>exact⟨j+1,m+1+q1,by omega,by go_num,by first|rfl|simp⟩
   case measure=>simp[intOf];omega
  ·have hjm:j=n:=by omega
   go_wp2_with fail
   go_ret
   exact⟨rfl,_,rfl⟩
end dsk
namespace dsk
set_option maxRecDepth 100000
open Go.ChangeShapes Go.WideShapes Go.ChangeAt Go.RowKit
open rows
open sec
def zero32:List Int:=List.replicate 32 0
theorem a0p:Sec zero32:=by
 refine⟨by simp[zero32],fun x hx => ?_⟩
 have:=List.eq_of_mem_replicate hx
 omega
theorem a4m(ss:List (List Int)):cellsOf ss=(ss.map u8s).flatten:=by
 simp only[cellsOf,u8s,List.map_flatten]
 rfl
theorem a5r(s:List Int):(u8s s).length=s.length:=by simp[u8s]
theorem a8b(n:Nat):Secs (List.replicate n zero32):=fun s hs=>by rw[List.eq_of_mem_replicate hs];exact a0p
theorem b5v(n:Nat):cellsOf (List.replicate n zero32)=List.replicate (n * 32) (.int .u8 0):=by
 unfold cellsOf u8s zero32
 rw[List.flatten_replicate_replicate,List.map_replicate]
theorem c9b(k n:Nat)(v:Value)(hk:0<k):(madeCells (List.replicate k v).toArray n).toList=List.replicate n v:=by
 apply List.ext_getElem
 ·simp[size_madeCells]
 ·intro i h1 h2
  have:i % k<k:=Nat.mod_lt _ hk
  simp[madeCells,this]
theorem b1e(n:Nat):(madeCells (Value.agg (u8s (List.replicate 32 0)).toArray).cells (n * 32)).toList=cellsOf (List.replicate n zero32):=by
 rw[b5v]
 have hz:(Value.agg (u8s (List.replicate 32 0)).toArray).cells=(List.replicate 32 (Value.int .u8 0)).toArray:=by simp[Value.cells,u8s]
 rw[hz,c9b 32 _ _ (by decide)]
theorem b1v{α:Type}(enc:α→List Value)(sz:Nat):∀(l:List α) (i:Nat) (x:α),(∀y∈l,(enc y).length=sz)→(enc x).length=sz→i<l.length →
  ((l.map enc).flatten).take (i * sz)++enc x++((l.map enc).flatten).drop (i * sz+sz)=((l.set i x).map enc).flatten
 | [],i,_,_,_,h=>by simp at h
 | y::t,0,x,hl,hx,_=>by
  have hy:=hl y (List.mem_cons_self ..)
  rw[List.map_cons,List.flatten_cons,Nat.zero_mul,List.take_zero,List.nil_append,Nat.zero_add,List.drop_left' hy]
  rfl
 | y::t,i+1,x,hl,hx,h=>by
  have hy:=hl y (List.mem_cons_self ..)
  have ih:=b1v enc sz t i x (fun z hz=>hl z (List.mem_cons_of_mem _ hz)) hx (by simpa using h)
  rw[List.map_cons,List.flatten_cons,List.set_cons_succ,List.map_cons,List.flatten_cons,← ih]
  have e1:(i+1) * sz=(enc y).length+i * sz:=by rw[hy,Nat.succ_mul];omega
  have e2:(i+1) * sz+sz=(enc y).length+(i * sz+sz):=by rw[e1];omega
  rw[e1,show (enc y).length+i * sz+sz=(enc y).length+(i * sz+sz) by omega,List.take_length_add_append,List.drop_length_add_append]
  simp[List.append_assoc]
def Rows(w:World)(g:Nat)(ss:List (List Int)):Prop:=w.heap[g]? = some (.cells (cellsOf ss).toArray 95 (0,0))
theorem b9u{w:World}{g:Nat}{ss:List (List Int)}(h:Rows w g ss)(hs:Secs ss)(hm:ss.length≤maxLen):Rd w 32 (.slice (some ⟨g,0,none⟩) ss.length ss.length) ss.length (cellsOf ss):=by
 by_cases h0:ss.length=0
 ·have:ss=[]:=List.eq_nil_of_length_eq_zero h0
  subst this
  exact Or.inl ⟨_,_,rfl,rfl,rfl,fun h=>by cases h⟩
 ·refine Or.inr ⟨g,0,_,rfl,by omega,Nat.le_refl _,hm,(Array.getElem?_eq_some_iff.1 h).1,a0y hs,fun i u hi => ?_⟩
  rw[Nat.zero_add,cell_of_row _ _ i _ _ (0,0) h]
  simpa using hi
theorem b0k{w:World}{B g n:Nat}{ss:List (List Int)}(h:w.ownsRow B 95 32 (.slice (some ⟨g,0,none⟩) n n) n (cellsOf ss)):Rows w g ss:=by
 rcases h.2 with⟨h2,_⟩|⟨g',cap,cur,h1,h2,h3,h4,h5,h6,h7⟩
 ·cases h2
 ·cases h1
  rw[List.take_of_length_le (by simp[h6])] at h7
  rw[Rows,← h7]
  exact h3
theorem a5g{w:World}{g i:Nat}{ss:List (List Int)}(h:Rows w g ss)(hs:Secs ss)(hi:i<ss.length){s:List Int}(hl:Sec s) :
  (storeVar 95 ⟨g,i * 32,none⟩ (.agg (u8s s).toArray)).run Tryz.prog w = .ok () (w.setRow g (cellsOf (ss.set i s)).toArray):=by
 have h1:=run_storeCells_at (P:=Tryz.prog) g (i * 32) 95 (u8s s) 0 (cellsOf ss).toArray w h (by simp[a0y hs,a5r,hl.1];omega) (a1y .u8 s)
 rw[Nat.add_zero,a5r,hl.1] at h1
 have e:(cellsOf ss).toArray.toList.take (i * 32)++u8s s++(cellsOf ss).toArray.toList.drop (i * 32+32)=cellsOf (ss.set i s):=by
  rw[a4m,a4m]
  exact b1v u8s 32 ss i s (fun y hy=>by rw[a5r,(hs y hy).1]) (by rw[a5r,hl.1]) hi
 rw[e] at h1
 cases hq:Tryz.prog.info? 95 with
 | none=>have:=a1k;simp[hq] at this
 | some q =>
  have hsz:q.size=32:=by have:=a1k;simpa [hq] using this
  have hc:(Value.agg (u8s s).toArray).cells=(u8s s).toArray:=rfl
  simp[storeVar,sizeOf,typeInfo,hq,hsz,hc,a5r,hl.1,h1]
theorem b3u{w:World}{g:Nat}{ss ss':List (List Int)}(h:Rows w g ss):Rows (w.setRow g (cellsOf ss').toArray) g ss':=setRow_heap w g _ _ _ _ h
theorem a3u(w:World)(g:Nat)(cs:Array Value):Touch (· = g) w (w.setRow g cs):=⟨rfl,rfl,rfl,by simp[World.setRow],fun k _ hk=>setRow_other w g k cs hk⟩
theorem b2d{w:World}{ops:Array Oper}{o:Oper}{a:Act}{K:Act→World→Prop}{Q:Exit→Act→World→Prop}{F:Prop}(hw:Region.wanted o (yielded ops a.tmps)=true)(x y:Operand)(ho:o.op = .store 95 x y)
  (g i:Nat) (hx:a.eval x = .pointer (some ⟨g,i * 32,none⟩)) (s:List Int) (hy:a.eval y = .agg (u8s s).toArray) (hl:Sec s) (ss:List (List Int)) (hs:Secs ss) (hi:i<ss.length) (hg:Rows w g ss)
  (h:∀w',Rows w' g (ss.set i s)→Touch (· = g) w w'→K (a.put o.dst undef) w'):if Region.wanted o (yielded ops a.tmps)=true then Oper.wp Tryz.prog o a w K Q else F:=by
 rw[if_pos hw]
 have hrun:=a5g hg hs hi hl
 unfold Oper.wp execOp
 simp only[ho,hx,hy,Instr.storeAt,Instr.sureAddr,Sem.run_bind,Sem.run_pure,Result.andThen_ok,hrun]
 exact h _ (b3u hg) (a3u w g _)
theorem a3z{ss:List (List Int)}(hs:Secs ss){s:List Int}(h:Sec s)(i:Nat):Secs (ss.set i s):=fun x hx=>by
 rcases List.mem_or_eq_of_mem_set hx with h1|rfl
 ·exact hs x h1
 ·exact h
def st0(ss:List (List Int)):St:=⟨ss,[],0,[],[],0⟩
theorem rnew_no(n:Int)(w:World)(h:(Lit.int .i64 n).wf=true)(hn:n<1∨65<n) :
  Calls Tryz.prog 58 #[.int .i64 n] w fun e w'=>e = .returned (.tuple #[.pointer none,.int .i64 1])∧w=w':=by
 have hx:=wf_i64 h
 rcases hn with hn|hn
 ·go_enter Tryz.func58,Tryz.ntmps58
  go_wp2
  go_ret2
  exact⟨rfl,rfl⟩
 ·have h1:decide (n<1)=false:=by simp;omega
  go_enter Tryz.func58,Tryz.ntmps58
  go_wp2
  go_ret2
  exact⟨rfl,rfl⟩
theorem c9v(n:Nat)(w:World)(h1:1≤n)(h2:n≤65) :
  Calls Tryz.prog 58 #[.int .i64 (n:Int)] w fun e w'=>∃g gs,e = .returned (.tuple #[.pointer (some ⟨g,0,none⟩),.int .i64 0])∧w.heap.size≤gs∧w.heap.size≤g∧gs≠g∧Rows w' gs (List.replicate n zero32) ∧
   w'.heap[g]? = some (.cells #[.slice (some ⟨gs,0,none⟩) n n,.slice none 0 0,.int .i64 0,.slice none 0 0,.slice none 0 0,.int .i64 0] 56 (0,0))∧Below w.heap.size w w':=by
 obtain⟨i0,hi,hz0,hz1,hz2⟩:=info_parts elem_secs.info
 have q1:decide ((n:Int)<1)=false:=by simp;omega
 have q2:decide ((65:Int)<n)=false:=by simp;omega
 go_enter Tryz.func58,Tryz.ntmps58
 go_wp2_with (first|(at_make;refine wpList_make_full _ rfl _ _ 22 rfl w.heap.size 95 i0 (.agg (u8s (List.replicate 32 0)).toArray) 32 Tryz.underlying22 hi hz0 hz1 .i64 .i64 _ _ n rfl rfl rfl rfl (by rw[hz2];omega) (by unfold maxLen;omega) (Nat.le_refl _) ?_;intro w3 ho3 hg3;rw[b1e] at ho3;have hb3:=a9c hg3;have R3:=ι (b0k ho3);clear ho3 hg3))
 go_ret2
 have hlt:w.heap.size<w3.heap.size:=(Array.getElem?_eq_some_iff.1 R3.out).1
 exact⟨w3.heap.size,w.heap.size,rfl,Nat.le_refl _,hb3.size,by omega,(Below.heap_alloc _ _ _ hlt).trans R3.out,heap_alloc_new _ _,a0b hb3 _⟩
theorem c9u(xs ss:List (List Int))(j:Nat)(h:ss.length=xs.length)(hj:j<xs.length):((xs.take j++ss.drop j).set j xs[j])=xs.take (j+1)++ss.drop (j+1):=by
 have h1:(xs.take j).length=j:=by simp;omega
 rw[List.set_append_right _ _ (by omega),h1,Nat.sub_self,List.drop_eq_getElem_cons (by omega),List.set_cons_zero,List.take_succ_eq_append_getElem hj,List.append_assoc]
 rfl
set_option maxHeartbeats 1600000 in
theorem b7s(p:Option Addr)(n c:Nat)(xs:List (List Int))(w:World)(hx:Secs xs)(hr:Rd w 32 (.slice p n c) n (cellsOf xs))(h1:1≤n)(h2:n≤65) :
  Calls Tryz.prog 10 #[.slice p n c] w fun e w'=>∃g gs,e = .returned (.tuple #[.pointer (some ⟨g,0,none⟩),.int .i64 0])∧w.heap.size≤gs∧w.heap.size≤g∧gs≠g∧Rows w' gs xs ∧
   w'.heap[g]? = some (.cells #[.slice (some ⟨gs,0,none⟩) n n,.slice none 0 0,.int .i64 0,.slice none 0 0,.slice none 0 0,.int .i64 0] 56 (0,0))∧Below w.heap.size w w':=by
 have hn:xs.length=n:=by have:=hr.cells;rw[a0y hx] at this;omega
 have HX:=ι hx
 have HR:=ι hr
 have HN:=ι hn
 have HNEW:=ι (c9v n w h1 h2)
 have hb1:(n:Int)≤65:=by omega
 clear hr hn hx
 go_enter Tryz.func10,Tryz.ntmps10
 go_wp2_with (go_at_call 58;refine HNEW.out.mono ?_;rintro e w1 ⟨g,gs,rfl,hgs,hg,hne,hrows,hrow,hb⟩;have HRW:=ι hrows;have HRG:=ι hrow;clear hrows hrow)
 have HRW0:Hid (Rows w1 gs (xs.take 0++(List.replicate n zero32).drop 0)):=ι (by simpa using HRW.out)
 go_loopw [6] (fun iv wr=>∃(j:Nat),j≤n∧iv = .int .i64 (j:Int)∧Hid (Rows wr gs (xs.take j++(List.replicate n zero32).drop j))∧Hid (wr.heap[g]? = some (.cells #[.slice (some ⟨gs,0,none⟩) n n,.slice none 0 0,.int .i64 0,.slice none 0 0,.slice none 0 0,.int .i64 0] 56 (0,0)))∧Below w.heap.size w wr) (fun iv _=>n-(intOf iv).toNat)
 case atStart=>exact⟨0,by omega,rfl,HRW0,HRG,hb⟩
 case round =>
  clear HRW HRG HRW0 hb HNEW w1
  obtain⟨j,hj,rfl,HRW,HRG,hbr⟩:=hrel
  by_cases ha:j<n
  ·have ha1:(j:Int)<n:=by omega
   obtain⟨b1,o1,rfl,hc1,hm1,hh1,hl1,HR1⟩:=b0e HR.out HX.out ha
   have hjl:j<xs.length:=by rw[HN.out];exact ha
   have hr1:=Rd.rangeLater (HR1 j hjl) hh1 hbr
   have hsx:=ι (HX.out _ (List.getElem_mem hjl))
   have hst:=c9u xs (List.replicate n zero32) j (by simp[HN.out]) hjl
   have hll:(xs.take j++(List.replicate n zero32).drop j).length=n:=by simp;omega
   have hss:Secs (xs.take j++(List.replicate n zero32).drop j):=fun s hs=>by
    rcases List.mem_append.1 hs with h|h
    ·exact HX.out s (List.mem_of_mem_take h)
    ·exact a8b n s (List.mem_of_mem_drop h)
   have HST:=ι hst
   have HLL:=ι hll
   have HSS:=ι hss
   generalize xs[j]=s at *
   have HRR:=ι hr1
   have c0:=ι (a0c HRG.out 0 _ rfl)
   have hgl:=(Array.getElem?_eq_some_iff.1 HRG.out).1
   have hb2:b1<wr.heap.size:=Nat.lt_of_lt_of_le hh1 hbr.size
   clear HR1 hl1 hr1 hst hll hss
   go_wp2_with fail
   refine wp_region_held_drew (S:=Touch (· = gs) wr.drew) (by kernel_rfl) (Touch.refl _ _) (fun hH0 => ?_)
   refine tk 0 rfl ?_
   refine tk 1 rfl ?_
   refine tk 2 rfl ?_
   refine tkv 3 rfl (a0l (by rfl) 22 _ c1g rfl _ rfl g 0 rfl (.slice (some ⟨gs,0,none⟩) n n) (fun w' hw=>by rw[hw.drewL.cell (p:=⟨g,0,none⟩) hgl (fun e=>hne e.symm)];exact c0.out)) ?_
   refine tk 4 rfl ?_
   refine tk 5 rfl ?_
   refine tk 6 rfl ?_
   refine tk 7 rfl ?_
   refine tkv 8 rfl (a3v (by rfl) _ rfl b1 (o1+j * 32) rfl s hsx.out.1 (fun w' hw=>hw.drewL.range hb2 (by omega) HRR.out)) ?_
   refine tk 9 rfl ?_
   refine rd 10 rfl (fun K hK => ?_)
   refine b2d (by rfl) _ _ rfl gs j (by rfl) s (by rfl) hsx.out _ HSS.out (by rw[HLL.out];exact ha) HRW.out ?_
   intro w2 hrw2 ht2
   rw[HST.out] at hrw2
   have HR2:=ι hrw2
   have HG2:Hid (w2.heap[g]? = _):=ι ((ht2.block g hgl (by omega)).trans HRG.out)
   have hb2':Below w.heap.size w w2:=hbr.drew.trans (ht2.below hbr.size (fun i hi=>by rw[hi];exact hgs))
   clear hrw2
   dsimp only
   refine hK.out _ _ ?_ (fun hHeld => ?_)
   ·exact ht2
   clear hK K
   try simp only[Act.put,List.setIfInBounds_toArray,List.set_cons_zero,List.set_cons_succ]
   refine wpAnyH_done (by kernel_rfl) ?_ _
   go_wp2_with fail
   go_roundw
   case rel=>exact⟨j+1,by omega,by go_num,HR2,HG2,hb2'⟩
   case measure=>simp[intOf];omega
  ·obtain rfl:j=n:=by omega
   have HRW2:Hid (Rows wr gs xs):=ι (by
    have h:=HRW.out
    rw[List.take_of_length_le (by rw[HN.out];omega),List.drop_of_length_le (by simp),List.append_nil] at h
    exact h)
   clear HRW
   go_wp2_with fail
   go_ret2
   exact⟨g,gs,rfl,hgs,hg,hne,HRW2.out,HRG.out,hbr⟩
end dsk
namespace rows
set_option maxRecDepth 100000
open Go.ChangeShapes Go.WideShapes Go.ChangeAt Go.RowKit
open dsk
theorem c5c{α:Type}{p:Nat→α→Prop}:∀(n:Nat),(∀i,i<n→∃a,p i a)→∃l:List α,l.length=n∧∀i (h:i<l.length),p i l[i]
 | 0,_=>⟨[],rfl,fun i h=>by simp at h⟩
 | n+1,h=>by
  obtain⟨l,hl,hp⟩:=c5c n fun i hi=>h i (by omega)
  obtain⟨a,ha⟩:=h n (by omega)
  refine⟨l++[a],by simp[hl],fun i hi => ?_⟩
  by_cases hlt:i<l.length
  ·rw[List.getElem_append_left hlt]
   exact hp i hlt
  ·have:i=n:=by simp at hi;omega
   subst this
   rw[List.getElem_append_right (by omega)]
   simpa [hl] using ha
section
variable {H:Type} {enc:TypeId×Value→H} {W:World} {base:Nat} {spare:Nat→Bool} {held:Bool}
theorem open_slice{α:Type}(encα:α→List Value){sz:Nat}(h0:0<sz){t e:TypeId}(hu:Tryz.prog.underlying t=some (.slice e))(hc:Tryz.prog.cellsOf e=sz)(good:α→Prop)(hlen:∀a,good a→(encα a).length=sz)
  (one:∀(n:Nat) (cs:List Value) (x:DataW H×List MemPlace),DataW.trod enc Tryz.prog W base spare held n e cs=some x→∃a,good a∧cs=encα a) {fuel:Nat} {cs:List Value} {x:DataW H×List MemPlace}
  (hf:DataW.trod enc Tryz.prog W base spare held fuel t cs=some x) :
  ∃(p:Option Addr) (len cap:Nat) (l:List α),cs=[.slice p len cap]∧(∀a∈l,good a)∧l.length=len∧Rd W sz (.slice p len cap) len ((l.map encα).flatten)∧len≤maxLen:=by
 rcases DataW.trod_slice hu hf with⟨hcs,_⟩|⟨a,len,cap,elems,rest,n,_,hcs,_,_,hl,hm,hel,hat,_,_⟩
 ·exact⟨none,0,0,[],hcs,by simp,rfl,Or.inl ⟨_,_,rfl,rfl,rfl,fun _=>rfl⟩,Nat.zero_le _⟩
 ·rw[hc] at hat
  have each:∀i,i<len→∃a',good a'∧∀k,k<sz→W.cell? ((a.add (i * sz)).add k)=(encα a')[k]? := by
   intro i hi
   have h1:=hat i hi
   rw[List.getElem?_eq_getElem (by omega),Option.bind_eq_some_iff] at h1
   obtain⟨cs',hcs',ht⟩:=h1
   obtain⟨a',ha',rfl⟩:=one _ _ _ ht
   exact⟨a',ha',(World.cells?_some hcs').2.2⟩
  by_cases hz:len=0
  ·subst hz
   exact⟨some a,0,cap,[],hcs,by simp,rfl,Or.inl ⟨_,_,rfl,rfl,rfl,fun h=>by cases h⟩,Nat.zero_le _⟩
  ·obtain⟨b,off,spot⟩:=a
   have hspot:spot=none:=by
    obtain⟨a',ha',hcell⟩:=each 0 (by omega)
    have h2:=hcell 0 h0
    have hl':=hlen a' ha'
    rw[List.getElem?_eq_getElem (by omega)] at h2
    cases spot with
    | none=>rfl
    | some y =>
     simp[Addr.add,World.cell?] at h2
     split at h2<;>cases h2
   subst hspot
   obtain⟨l,hll,hlp⟩:=c5c len each
   have hg:∀a∈l,good a:=fun a ha=>by
    obtain⟨i,hi,rfl⟩:=List.getElem_of_mem ha
    exact(hlp i hi).1
   have hle:∀a∈l,(encα a).length=sz:=fun a ha=>hlen a (hg a ha)
   have hcl:((l.map encα).flatten).length=len * sz:=by rw[a7k encα sz l hle,hll]
   have hcellat:∀i (hi:i<l.length) k,k<sz→W.cell? ⟨b,off+i * sz+k,none⟩=(encα l[i])[k]? := fun i hi k hk=>by
    have h1:=(hlp i hi).2 k hk
    have e:((⟨b,off,none⟩:Addr).add (i * sz)).add k=⟨b,off+i * sz+k,none⟩:=by rw[Addr.add_mid,Addr.add_mid]
    exact(congrArg W.cell? e).symm.trans h1
   refine⟨_,len,cap,l,hcs,hg,hll,Or.inr ⟨b,off,cap,rfl,by omega,hl,hm,?_,hcl,?_⟩,by omega⟩
   ·have h1:=hcellat 0 (by omega) 0 h0
    have hl0:=hle _ (List.getElem_mem (show 0<l.length by omega))
    rw[List.getElem?_eq_getElem (by omega)] at h1
    exact block_lt_of_cell h1
   ·intro k u hk
    have hkl:k<len * sz:=by
     have:=(List.getElem?_eq_some_iff.1 hk).1
     rw[hcl] at this;exact this
    have hi:k / sz<l.length:=by rw[hll];exact Nat.div_lt_of_lt_mul (by rw[Nat.mul_comm];exact hkl)
    have hr:=Nat.mod_lt k h0
    have h1:=hcellat (k / sz) hi (k % sz) hr
    have h2:=b4c encα sz l hle (k / sz) hi (k % sz) hr
    have hdm:k / sz * sz+k % sz=k:=by rw[Nat.mul_comm];exact Nat.div_add_mod k sz
    rw[hdm,hk] at h2
    rw[show off+k=off+k / sz * sz+k % sz by omega,h1,← h2]
end
end rows
namespace sec
set_option maxRecDepth 100000
open Go.ChangeShapes Go.WideShapes Go.ChangeAt Go.RowKit
open rows
theorem cellsU8:Tryz.prog.cellsOf 5=1:=by kernel_rfl
theorem cellsSec:Tryz.prog.cellsOf 95=32:=by kernel_rfl
theorem wf_u8{n:Int}(h:(Lit.int .u8 n).wf=true):0≤n∧n<256:=by
 have:0≤n∧n≤255:=by simpa [Lit.wf,IntKind.min,IntKind.max,IntKind.signed,IntKind.bits] using h
 omega
theorem b6u{H:Type}{enc:TypeId×Value→H}{W:World}{base fuel:Nat}{spare:Nat→Bool}{held:Bool}{cs:List Value}{x:DataW H×List MemPlace}
  (h:DataW.trod enc Tryz.prog W base spare held fuel 95 cs=some x):∃s,Sec s∧cs=u8s s:=by
 obtain⟨xs,m,rfl,_,hl,hx,hi⟩:=DataW.trod_array Tryz.underlying95 h
 rw[cellsSec] at hl
 have one:∀i (h:i<cs.length),∃n:Int,cs[i] = .int .u8 n∧0≤n∧n<256:=by
  intro i hic
  have h1:=hi i (by omega)
  rw[cellsU8,Nat.mul_one,List.getElem?_eq_getElem (by omega)] at h1
  obtain⟨n,hn,_,hw⟩:=DataW.trod_int Tryz.underlying5 h1
  rw[List.drop_eq_getElem_cons hic,List.take_succ_cons,List.take_zero] at hn
  exact⟨n,by simpa using hn,wf_u8 hw⟩
 refine⟨cs.map (fun v=>match v with | .int _ n=>n|_=>0),⟨by simpa using hl,?_⟩,?_⟩
 ·intro x hx
  obtain⟨v,hv,rfl⟩:=List.mem_map.1 hx
  obtain⟨i,hi,rfl⟩:=List.getElem_of_mem hv
  obtain⟨n,hn,h0⟩:=one i hi
  rw[hn];exact h0
 ·unfold u8s
  rw[List.map_map]
  symm
  apply List.ext_getElem (by simp)
  intro i h1 h2
  rw[List.getElem_map]
  obtain⟨n,hn,_⟩:=one i h2
  simp[hn]
theorem b6p{H:Type}{enc:TypeId×Value→H}{W:World}{p:Option Addr}{len cap:Nat}{d:DataW H}{ps:List MemPlace}
  (h:DataW.Trod enc Tryz.prog W 0 (fun _=>true) true 22 (.slice p len cap) d ps):∃ss,Secs ss∧Rd W 32 (.slice p len cap) len (cellsOf ss)∧len≤maxLen:=by
 obtain⟨fuel,hf⟩:=h
 rcases DataW.trod_slice Tryz.underlying22 hf with⟨hcs,_⟩|⟨a,len',cap',elems,rest,n,_,hcs,_,_,hl,hm,hel,hat,_,_⟩
 ·simp[Value.cells] at hcs
  obtain⟨rfl,rfl,rfl⟩:=hcs
  exact⟨[],by simp[Secs],Or.inl ⟨_,_,rfl,rfl,rfl,fun _=>rfl⟩,Nat.zero_le _⟩
 ·simp[Value.cells] at hcs
  obtain⟨rfl,rfl,rfl⟩:=hcs
  rw[cellsSec] at hat
  have one:∀i,i<len→∃s,Sec s∧∀k,k<32→W.cell? ((a.add (i * 32)).add k)=(u8s s)[k]? := by
   intro i hi
   have h1:=hat i hi
   rw[List.getElem?_eq_getElem (by omega),Option.bind_eq_some_iff] at h1
   obtain⟨cs,hcs,ht⟩:=h1
   obtain⟨s,hs,rfl⟩:=b6u ht
   exact⟨s,hs,(World.cells?_some hcs).2.2⟩
  by_cases h0:len=0
  ·subst h0
   exact⟨[],by simp[Secs],Or.inl ⟨_,_,rfl,rfl,rfl,fun h=>by cases h⟩,Nat.zero_le _⟩
  ·obtain⟨b,off,spot⟩:=a
   have hspot:spot=none:=by
    obtain⟨s,hs,hc⟩:=one 0 (by omega)
    have:=hc 0 (by omega)
    have hne:(u8s s)[0]? = some ((u8s s)[0]'(by simp[u8s,hs.1])):=List.getElem?_eq_getElem _
    rw[hne] at this
    cases spot with
    | none=>rfl
    | some x =>
     simp[Addr.add,World.cell?] at this
     split at this<;>cases this
   subst hspot
   have hsome:∃f:Nat→List Int,∀i,i<len→Sec (f i)∧∀k,k<32→W.cell? ⟨b,off+i * 32+k,none⟩=(u8s (f i))[k]? := by
    refine⟨fun i=>if h:i<len then (one i h).choose else [],fun i hi => ?_⟩
    simp only[hi,dite_true]
    obtain⟨h1,h2⟩:=(one i hi).choose_spec
    refine⟨h1,fun k hk => ?_⟩
    have e:((⟨b,off,none⟩:Addr).add (i * 32)).add k=⟨b,off+i * 32+k,none⟩:=by rw[Addr.add_mid,Addr.add_mid]
    exact(congrArg W.cell? e).symm.trans (h2 k hk)
   obtain⟨f,hf⟩:=hsome
   have hss:Secs ((List.range len).map f):=by
    intro s hs
    obtain⟨i,hi,rfl⟩:=List.mem_map.1 hs
    exact(hf i (List.mem_range.1 hi)).1
   have hcl:(cellsOf ((List.range len).map f)).length=len * 32:=by rw[a0y hss];simp
   refine⟨(List.range len).map f,hss,Or.inr ⟨b,off,cap,rfl,by omega,hl,hm,?_,hcl,?_⟩,by omega⟩
   ·have:=(hf 0 (by omega)).2 0 (by omega)
    have hne:(u8s (f 0))[0]? = some ((u8s (f 0))[0]'(by simp[u8s,(hf 0 (by omega)).1.1])):=List.getElem?_eq_getElem _
    rw[hne] at this
    exact block_lt_of_cell this
   ·intro k u hk
    have hkl:k<len * 32:=by
     have:=(List.getElem?_eq_some_iff.1 hk).1
     rw[hcl] at this;exact this
    have hi:k / 32<len:=by omega
    have h1:=(hf (k / 32) hi).2 (k % 32) (Nat.mod_lt _ (by decide))
    have hsec:=(hf (k / 32) hi).1.1
    have hlt:k % 32<(u8s (f (k / 32))).length:=by simp[u8s,hsec];omega
    have h2:=cellsOf_at hss (j:=k / 32) (by simpa using hi) (k % 32) ((u8s (f (k / 32)))[k % 32]) (by
     have e:((List.range len).map f)[k / 32]'(by simpa using hi)=f (k / 32):=by simp
     rw[e];exact List.getElem?_eq_getElem hlt)
    rw[show k / 32 * 32+k % 32=k by omega,hk] at h2
    rw[show off+k=off+k / 32 * 32+k % 32 by omega,h1,h2,List.getElem?_eq_getElem hlt]
end sec
namespace sec
set_option maxRecDepth 100000
open Go.ChangeShapes Go.WideShapes Go.ChangeAt Go.RowKit
open rows
theorem elem_bytes:Elem 38 5 1 1 (.int .u8 0):=⟨Tryz.underlying38,by kernel_rfl,by decide,by decide,by decide⟩
theorem c8z{ss:List (List Int)}(h:Secs ss):ss.flatten.length=ss.length * 32:=by
 have:=a0y h
 unfold cellsOf u8s at this
 rw[List.length_map] at this
 exact this
end sec
namespace sec
set_option maxRecDepth 100000
open Go.ChangeShapes Go.WideShapes Go.ChangeAt Go.RowKit
open rows
def part(zs:List Int)(j K:Nat):List Value:=u8s (zs.take j++List.replicate (K * 32-j) 0)
end sec
end Go.Proofs.YtiaapfijbidgnaaGreatDoor
