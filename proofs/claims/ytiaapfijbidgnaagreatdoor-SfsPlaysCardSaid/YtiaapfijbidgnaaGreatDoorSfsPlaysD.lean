/- What SfsPlays wants, part 4. -/
import Derived.Test.YtiaapfijbidgnaaGreatDoorSfsPlaysB
import Derived.Test.YtiaapfijbidgnaaGreatDoorSfsPlaysC
import Derived.Great.BuildSlice
set_option linter.unusedVariables false
set_option linter.unusedSimpArgs false
namespace Go.Proofs.YtiaapfijbidgnaaGreatDoor
namespace dsk
set_option maxRecDepth 100000
open Go.ChangeShapes Go.WideShapes Go.ChangeAt Go.RowKit
open rows
open sec
theorem a1l:Elem 52 143 38 96 (.agg (evC (0,⟨0,zero32,0,0,0⟩,[]) (.slice none 0 0)).toArray):=⟨Tryz.underlying52,by kernel_rfl,by decide,by decide,by decide⟩
theorem elem_wrs:Elem 54 99 36 64 (.agg (Wr.c ⟨0,zero32,0,0,0⟩).toArray):=⟨Tryz.underlying54,by kernel_rfl,by decide,by decide,by decide⟩
theorem c5a:Elem 141 97 2 16 (.agg #[.int .i64 0,.int .i64 0]):=⟨Tryz.underlying141,by kernel_rfl,by decide,by decide,by decide⟩
theorem c1q:∀(l:List Value) (k:Nat) (A:Array Value),A.size=k+l.length→((l.zipIdx k).foldl (fun cs x=>cs.setIfInBounds (0+x.2) x.1) A).toList=A.toList.take k++l
 | [],k,A,h=>by
  simp only[List.zipIdx_nil,List.foldl_nil,List.append_nil]
  rw[List.take_of_length_le]
  simp at h ⊢;omega
 | c::t,k,A,h=>by
  rw[List.zipIdx_cons,List.foldl_cons,c1q t (k+1) _ (by simp at h ⊢;omega)]
  have hk:k<A.toList.length:=by simp at h ⊢;omega
  simp only[Nat.zero_add,Array.toList_setIfInBounds]
  rw[List.take_succ_eq_append_getElem (by simpa using hk),List.take_set_of_le (Nat.le_refl k)]
  simp
theorem c9s(sz:Nat)(cs:List Value)(v:Value)(hv:v.cells=cs.toArray)(hs:cs.length=sz)(old:Array Value)(ho:old.size=sz):Instr.fill (fun i=>some (i * sz,sz)) old [(0,v)]=some cs.toArray:=by
 unfold Instr.fill
 simp only[hv,Nat.zero_mul,Nat.zero_add,List.size_toArray,hs,ho,ne_eq,not_true_eq_false,decide_false,Bool.false_or,Nat.lt_irrefl,gt_iff_lt,Bool.false_eq_true,if_false]
 unfold Instr.fill
 congr 1
 apply Array.ext'
 have:=c1q cs 0 old (by rw[ho,hs];omega)
 simpa using this
theorem a9l{t e:TypeId}{sz by_:Nat}{z:Value}(E:Elem t e sz by_ z)(hsz:sz≤1000){o:Oper}{a:Act}{w:World}{K:Act→World→Prop}{Q:Exit→Act→World→Prop}(x:Operand)(ho:o.op = .buildSlice t 1 #[(0,x)])
  (cs:List Value) (hx:(a.eval x).cells=cs.toArray) (hs:cs.length=sz) (h:K (a.put o.dst (.slice (some ⟨w.heap.size,0,none⟩) 1 1)) (w.alloc (.cells cs.toArray e))):o.wp Tryz.prog a w K Q:=by
 obtain⟨ie,hi,hz0,hz1,hz2⟩:=info_parts E.info
 have:=E.pos
 refine wp_buildSlice t e 1 #[(0,x)] ho cs.toArray ie _ E.und hi hz0 (by rw[hz1];omega) (by rw[hz1];omega) ?_ h
 rw[hz1]
 simp only[List.map_toArray,List.map_cons,List.map_nil]
 exact c9s sz cs _ hx hs _ (by simp)
theorem a0q{t e:TypeId}{sz by_:Nat}{z:Value}(E:Elem t e sz by_ z)(hsz:sz≤1000){ops:Array Oper}{rest:List Oper}{o:Oper}{a:Act}{w:World}{Q:Exit→Act→World→Prop}(hgd:o.guard=none)(x:Operand)(ho:o.op = .buildSlice t 1 #[(0,x)])
  (cs:List Value) (hx:(a.eval x).cells=cs.toArray) (hs:cs.length=sz) (h:wpList Tryz.prog ops Q rest (a.put o.dst (.slice (some ⟨w.heap.size,0,none⟩) 1 1)) (w.alloc (.cells cs.toArray e))):wpList Tryz.prog ops Q (o::rest) a w :=
 wpList_plain hgd fun K hK=>a9l E hsz x ho cs hx hs (hK _ _ h)
theorem a3k{t e:TypeId}{sz by_:Nat}{z:Value}(E:Elem t e sz by_ z)(hsz:sz≤1000){ops:Array Oper}{o:Oper}{a:Act}{w:World}{K:Act→World→Prop}{Q:Exit→Act→World→Prop}{F:Prop}(hw:Region.wanted o (yielded ops a.tmps)=true)(x:Operand)(ho:o.op = .buildSlice t 1 #[(0,x)])
  (cs:List Value) (hx:(a.eval x).cells=cs.toArray) (hs:cs.length=sz) (h:K (a.put o.dst (.slice (some ⟨w.heap.size,0,none⟩) 1 1)) (w.alloc (.cells cs.toArray e))):if Region.wanted o (yielded ops a.tmps)=true then Oper.wp Tryz.prog o a w K Q else F:=by
 rw[if_pos hw]
 exact a9l E hsz x ho cs hx hs h
theorem a1r(w:World)(e:TypeId)(sz:Nat)(cs:List Value)(h:cs.length=sz):Rd (w.alloc (.cells cs.toArray e)) sz (.slice (some ⟨w.heap.size,0,none⟩) 1 1) 1 cs:=by
 have:=b1g w e sz cs.toArray (by simpa using h)
 simpa using this
theorem a5x{w:World}{B:Nat}{e:TypeId}{sz n:Nat}{v:Value}{cs:List Value}(h:Own w B e sz v n cs):InS (fun b=>B≤b∧b<w.heap.size) v:=by
 intro a m c hv hm
 rcases h.2 with⟨h1,h2⟩|⟨g,cap,cur,h1,h2,h3,_⟩
 ·rw[hv] at h1;cases h1
 ·rw[hv] at h1
  cases h1
  exact⟨h2,(Array.getElem?_eq_some_iff.1 h3).1⟩
theorem a7d(S:Nat→Prop):InS S (.slice none 0 0):=fun a n c h _=>by cases h
theorem c1a{S S':Nat→Prop}{w w':World}{v v' t:Value}{es:List Ev}{vs:List Value}{n:Nat}{ev:Ev}(h:EvsIn S w v es n vs)(hn:n=es.length)(k:Keeps S w w')(hS:∀b,S b→S' b)
  (hr:Rd w' 38 v' (n+1) (((es.zip vs).map fun x=>evC x.1 x.2).flatten++evC ev t)) (hi:InS S' v')
  (ht:∃p c,t = .slice p ev.2.2.length c∧Rd w' 2 t ev.2.2.length (tagsC ev.2.2)∧InS S' t):EvsIn S' w' v' (es++[ev]) (n+1) (vs++[t]):=by
 refine⟨by simp[h.len],?_,hi,?_⟩
 ·rw[List.zip_append (by rw[h.len]),List.map_append,List.flatten_append]
  simpa using hr
 ·intro i hi'
  by_cases hlt:i<es.length
  ·obtain⟨p,c,h1,h2,h3⟩:=h.tags i hlt
   have e:(es++[ev])[i]=es[i]:=by simp[List.getElem_append_left hlt]
   rw[e]
   exact⟨p,c,by rw[List.getElem?_append_left (by rw[h.len];exact hlt)];exact h1,Rd.kept h2 h3 k,h3.mono hS⟩
  ·have hie:i=es.length:=by simp at hi';omega
   subst hie
   obtain⟨p,c,h1,h2,h3⟩:=ht
   have e:(es++[ev])[es.length]=ev:=by simp
   subst h1
   rw[e]
   exact⟨p,c,by rw[List.getElem?_append_right (by rw[h.len];exact Nat.le_refl _),h.len];simp,h2,h3⟩
theorem a3m{S S':Nat→Prop}{w w':World}{v:Value}{es:List Ev}{vs:List Value}{n:Nat}(h:EvsIn S w v es n vs)(k:Keeps S w w')(hS:∀b,S b→S' b):EvsIn S' w' v es n vs:=by
 refine⟨h.len,Rd.kept h.cells h.at_ k,h.at_.mono hS,fun i hi => ?_⟩
 obtain⟨p,c,h1,h2,h3⟩:=h.tags i hi
 exact⟨p,c,h1,Rd.kept h2 h3 k,h3.mono hS⟩
def grow(S:Nat→Prop)(w w':World):Nat→Prop:=fun b=>S b∨(w.heap.size≤b∧b<w'.heap.size)
def RefIs(w:World)(S:Nat→Prop)(g:Nat)(st:St):Prop:=∃vs vw vl vb,RefAt w S g st vs vw vl vb
theorem RefAt.lt{w:World}{S:Nat→Prop}{g:Nat}{st:St}{vs vw vl vb:Value}(h:RefAt w S g st vs vw vl vb):g<w.heap.size:=(Array.getElem?_eq_some_iff.1 h.row).1
theorem b6w{w w':World}{S:Nat→Prop}{g:Nat}{st:St}{vs vw vl vb vl':Value}{ep' ask':Int}{log':List Ev}(h:RefAt w S g st vs vw vl vb)(ht:Touch (· = g) w w')
  (hrow:w'.heap[g]? = some (.cells #[vs,vw,.int .i64 ep',vl',vb,.int .i64 ask'] 56 (0,0)))
  (hl:∃es,EvsIn (fun b=>grow S w w' b∧b≠g) w' vl' log' log'.length es):RefAt w' (grow S w w') g ⟨st.safe,st.wait,ep',log',st.bad,ask'⟩ vs vw vl' vb:=by
 have k:Keeps (fun b=>S b∧b≠g) w w':=ht.keeps fun b hb=>hb.2
 have hS:∀b,(S b∧b≠g)→(grow S w w' b∧b≠g):=fun b hb=>⟨Or.inl hb.1,hb.2⟩
 exact⟨hrow,Or.inl h.own,Rd.kept h.safe h.safeS k,h.safeS.mono hS,Rd.kept h.wait h.waitS k,h.waitS.mono hS,hl,Rd.kept h.bad h.badS k,h.badS.mono hS⟩
theorem RefAt.keepSafe{w w':World}{S:Nat→Prop}{g:Nat}{st:St}{vs vw vl vb:Value}(h:RefAt w S g st vs vw vl vb)(ht:Touch (· = g) w w'):Rd w' 32 vs st.safe.length (cellsOf st.safe)∧InS (fun b=>grow S w w' b∧b≠g) vs :=
 ⟨Rd.kept h.safe h.safeS (ht.keeps fun b hb=>hb.2),h.safeS.mono fun b hb=>⟨Or.inl hb.1,hb.2⟩⟩
theorem RefAt.keepWait{w w':World}{S:Nat→Prop}{g:Nat}{st:St}{vs vw vl vb:Value}(h:RefAt w S g st vs vw vl vb)(ht:Touch (· = g) w w'):Rd w' 36 vw st.wait.length (wrsC st.wait)∧InS (fun b=>grow S w w' b∧b≠g) vw :=
 ⟨Rd.kept h.wait h.waitS (ht.keeps fun b hb=>hb.2),h.waitS.mono fun b hb=>⟨Or.inl hb.1,hb.2⟩⟩
theorem RefAt.keepBad{w w':World}{S:Nat→Prop}{g:Nat}{st:St}{vs vw vl vb:Value}(h:RefAt w S g st vs vw vl vb)(ht:Touch (· = g) w w'):Rd w' 1 vb st.bad.length (i64s st.bad)∧InS (fun b=>grow S w w' b∧b≠g) vb :=
 ⟨Rd.kept h.bad h.badS (ht.keeps fun b hb=>hb.2),h.badS.mono fun b hb=>⟨Or.inl hb.1,hb.2⟩⟩
theorem RefAt.keepLog{w w':World}{S:Nat→Prop}{g:Nat}{st:St}{vs vw vl vb:Value}(h:RefAt w S g st vs vw vl vb)(ht:Touch (· = g) w w'):∃es,EvsIn (fun b=>grow S w w' b∧b≠g) w' vl st.log st.log.length es:=by
 obtain⟨es,he⟩:=h.log
 exact⟨es,a3m he (ht.keeps fun b hb=>hb.2) fun b hb=>⟨Or.inl hb.1,hb.2⟩⟩
theorem rfails'(S:Nat→Prop)(g:Nat)(st:St)(vs vw vl vb:Value)(w:World)(h:RefAt w S g st vs vw vl vb)(hb:st.bad.length≤1000)(ha:0≤st.asked∧st.asked≤1000) :
  Calls Tryz.prog 141 #[.pointer (some ⟨g,0,none⟩)] w fun e w'=>e = .returned (.bool (decide (st.asked∈st.bad)))∧w'.heap[g]? = some (.cells #[vs,vw,.int .i64 st.ep,vl,vb,.int .i64 (st.asked+1)] 56 (0,0))∧Touch (· = g) w w'∧w'.heap.size=w.heap.size:=by
 refine(rfails S g st vs vw vl vb w h hb ha).mono ?_
 rintro e w' ⟨he,k,rfl⟩
 have h1:(w.setCell ⟨g,5,none⟩ (.int .i64 (st.asked+1))).heap[g]? = some (.cells #[vs,vw,.int .i64 st.ep,vl,vb,.int .i64 (st.asked+1)] 56 (0,0)):=a0g h.row _
 have h2:Touch (· = g) w (w.setCell ⟨g,5,none⟩ (.int .i64 (st.asked+1))):=Touch.setCell (S:=(· = g)) (Touch.refl _ w) ⟨g,5,none⟩ rfl _
 exact⟨he,h1,h2.trans (Touch.of_below (a3r (Below.refl _ _) k)),by simp[World.setCell]⟩
end dsk
namespace dsk
set_option maxRecDepth 100000
open Go.ChangeShapes Go.WideShapes Go.ChangeAt Go.RowKit
open rows
open sec
def w0:Wr:=⟨0,zero32,0,0,0⟩
structure St.few (st:St):Prop where
 ss:Secs st.safe
 ws:∀x∈st.wait,Sec x.s
 es:∀e∈st.log,Sec e.2.1.s
 ts:∀e∈st.log,e.2.2.length≤1000
 wn:st.wait.length≤900
 ln:st.log.length≤900
 bn:st.bad.length≤900
 ep0:0≤st.ep
 ep1:st.ep≤900
 as0:0≤st.asked
 as1:st.asked≤900
def asks(st:St):Bool:=decide (st.asked∈st.bad)
def St.asked1(st:St):St:={ st with asked:=st.asked+1 }
def barrier(st:St):Int×St:=if asks st=true then (3,st.asked1) else (0,{ st with asked:=st.asked+1,ep:=st.ep+1,log:=st.log++[(3,w0,[])] })
def RefDone(S:Nat→Prop)(g:Nat)(w:World)(r:Int×St)(e:Ending)(w':World):Prop:=e = .returned (.int .i64 r.1)∧RefIs w' (grow S w w') g r.2∧Touch (· = g) w w'
theorem a7n{w:World}{sz n:Nat}{v:Value}{cs:List Value}(h:Rd w sz v n cs):∃p c,v = .slice p n c:=by
 rcases h with⟨p',cap',h1,h2,_⟩|⟨b,off,cap',h1,_⟩
 ·exact⟨_,_,by rw[h1,h2]⟩
 ·exact⟨_,_,h1⟩
theorem a3i(x:Wr):∀u∈x.c,u.oneCell'=true:=by
 intro u hu
 rcases List.mem_cons.1 hu with rfl|hu
 ·rfl
 ·rcases List.mem_append.1 hu with hu|hu
  ·exact a1y .u8 _ u hu
  ·simp only[List.mem_cons,List.not_mem_nil,or_false] at hu
   rcases hu with rfl|rfl|rfl<;>rfl
theorem a6x(e:Ev)(v:Value)(hv:v.oneCell'=true):∀u∈evC e v,u.oneCell'=true:=by
 intro u hu
 rcases List.mem_cons.1 hu with rfl|hu
 ·rfl
 ·rcases List.mem_append.1 hu with hu|hu
  ·exact a3i _ u hu
  ·rw[List.mem_singleton.1 hu];exact hv
theorem b7f{w:World}(b B:Nat)(e:TypeId)(sz:Nat)(hb:b=w.heap.size)(hB:B≤b):Own (w.alloc (.cells #[] e)) B e sz (.slice (some ⟨b,0,none⟩) 0 0) 0 []:=by
 subst hb;exact a4p w e sz hB
theorem a1p(w:World)(a:Addr)(v:Value):(w.setCell a v).heap.size=w.heap.size:=by simp[World.setCell]
theorem size_alloc(w:World)(o:Obj):(w.alloc o).heap.size=w.heap.size+1:=by simp
theorem c1j{S:Nat→Prop}{w:World}{v:Value}{es:List Ev}{vs:List Value}{n:Nat}(h:EvsIn S w v es n vs):∀u∈((es.zip vs).map fun x=>evC x.1 x.2).flatten,u.oneCell'=true:=by
 intro u hu
 obtain⟨l,hl,hul⟩:=List.mem_flatten.1 hu
 obtain⟨x,hx,rfl⟩:=List.mem_map.1 hl
 refine a6x _ _ ?_ u hul
 obtain⟨i,hi,hxi⟩:=List.getElem_of_mem hx
 have hie:i<es.length:=by simp at hi;omega
 obtain⟨p,c,h1,_⟩:=h.tags i hie
 rw[List.getElem_zip] at hxi
 have h2:x.2=vs[i]'(by rw[h.len];exact hie):=by rw[← hxi]
 rw[List.getElem?_eq_getElem (by rw[h.len];exact hie)] at h1
 rw[h2,Option.some.inj h1]
 rfl
set_option maxHeartbeats 1600000 in
theorem rbarrier(S:Nat→Prop)(g:Nat)(st:St)(w:World)(h:RefIs w S g st)(hf:st.few):Calls Tryz.prog 75 #[.pointer (some ⟨g,0,none⟩)] w (RefDone S g w (barrier st)):=by
 obtain⟨vs,vw,vl,vb,h⟩:=h
 have HA:=ι h
 have HF:=ι (rfails' S g st vs vw vl vb w h (by have:=hf.bn;omega) ⟨hf.as0,by have:=hf.as1;omega⟩)
 have hep:=hf.ep0
 have hep1:=hf.ep1
 have hln:=hf.ln
 have hlt:=h.lt
 obtain⟨pl,cl,hvl⟩:=a7n h.log.choose_spec.cells
 subst hvl
 obtain⟨es,hes⟩:=h.log
 have HE:=ι hes
 by_cases hd:st.asked∈st.bad
 ·have hb:barrier st=(3,st.asked1):=if_pos (decide_eq_true hd)
  rw[hb]
  rw[decide_eq_true hd] at HF
  clear h hf hb hd hes
  go_enter Tryz.func75,Tryz.ntmps75
  go_wp2_with (go_at_call 141;refine HF.out.mono ?_;rintro e w1 ⟨rfl,hrow,ht,hsz⟩;have HRW:=ι hrow;clear hrow hsz)
  go_ret
  exact⟨rfl,⟨_,_,_,_,b6w HA.out ht HRW.out ⟨es,a3m HE.out (ht.keeps fun b hb=>hb.2) fun b hb=>⟨Or.inl hb.1,hb.2⟩⟩⟩,ht⟩
 ·have hb:barrier st=(0,{ st with asked:=st.asked+1,ep:=st.ep+1,log:=st.log++[(3,w0,[])] }):=if_neg (by rw[asks,decide_eq_false hd];decide)
  rw[hb]
  rw[decide_eq_false hd] at HF
  generalize hn:st.log.length=n at *
  have HN:=ι hn
  clear hn
  clear h hf hb hd hes
  go_enter Tryz.func75,Tryz.ntmps75
  go_wp2_with fail
  refine HF.out.mono ?_
  rintro e w1 ⟨rfl,hrow,ht,hsz⟩
  have HRW:=ι hrow
  have c2:w1.cell? ⟨g,2,none⟩=some (.int .i64 st.ep):=a0c hrow 2 _ rfl
  have z2:=a0d hrow 2
  have c3:w1.cell? ⟨g,3,none⟩=some (.slice pl n cl):=a0c hrow 3 _ rfl
  have z3:=a0d hrow 3
  have HSZ:=ι hsz
  have hlt1:g<w1.heap.size:=by omega
  have HE1:=ι (a3m HE.out (S':=fun b=>S b∧b≠g) (ht.keeps fun b hb=>hb.2) fun b hb=>hb)
  have k1:Keeps (fun b=>S b∧b≠g) w1 (w1.setCell ⟨g,2,none⟩ (.int .i64 (st.ep+1))):=Keeps.set (fun k hk=>hk.2) _
  have HE2:=ι (a3m HE1.out (S':=fun b=>S b∧b≠g) (k1.trans (Keeps.of_below (a0b (Below.refl _ _) (.cells #[] 143)))) fun b hb=>hb)
  have HON:=ι (c1j HE.out)
  have HON2:=ι (a6x (3,w0,[]) (.slice none 0 0) rfl)
  have HC2:=ι HE2.out.cells
  obtain⟨cs,hcs⟩:∃cs,((st.log.zip es).map fun x=>evC x.1 x.2).flatten=cs:=⟨_,rfl⟩
  rw[hcs] at HON HC2
  have HCS:=ι hcs
  clear hrow hsz k1 hcs HE2
  go_wp2_with (first|(at_builtin;refine a5s a1l rfl (.tmp 13) (.tmp 17) rfl w1.heap.size _ 0 [] rfl (b7f _ _ _ _ (a1p _ _ _).symm (Nat.le_refl _)) _ n _ rfl HC2.out HON.out (by omega) (by rw[size_alloc,a1p];omega) ?_;intro pa ca wa ho hb;have HO:=ι ho;clear ho)|(refine wpList_buildTo rfl 143 #[(0,.const (.int .i64 3))] rfl (some 19) rfl (evC (3,w0,[]) (.slice none 0 0)).toArray (by kernel_rfl) ?_)|(refine a0q a1l (by decide) rfl (.tmp 19) rfl (evC (3,w0,[]) (.slice none 0 0)) rfl rfl ?_)|(at_builtin;refine a5s a1l rfl (.tmp 18) (.tmp 20) rfl w1.heap.size _ _ _ rfl (HO.out.alloc _) _ 1 _ rfl (a1r _ _ _ _ rfl) HON2.out (by omega) (by have:=hb.size;rw[size_alloc,a1p] at this;rw[size_alloc];omega) ?_;intro pb cb wb ho hb2;have HO2:=ι ho;clear ho;have hrb:=a0z (a6d (a0z (a6d (a0g HRW.out (.int .i64 (st.ep+1))) _) hb hlt1) _) hb2 hlt1;have c3b:wb.cell? ⟨g,3,none⟩=some (.slice pl n cl):=a0c hrb 3 _ rfl;have z3b:=a0d hrb 3;have HRB:=ι hrb;clear hrb))
  have hT:Touch (· = g) w (wb.setCell ⟨g,3,none⟩ (.slice pb (n+1) cb)):=by
   have h1:Touch (· = g) w1 ((w1.setCell ⟨g,2,none⟩ (.int .i64 (st.ep+1))).alloc (.cells #[] 143)):=(Touch.setCell (S:=(· = g)) (Touch.refl _ w1) ⟨g,2,none⟩ rfl _).alloc _
   have h2:=h1.trans' (Touch.of_below' hb) (fun i hi=>Or.inr hi)
   have h3:=(h2.alloc (.cells (evC (3,w0,[]) (.slice none 0 0)).toArray 143)).trans' (Touch.of_below' hb2) (fun i hi=>Or.inr hi)
   exact Touch.setCell (S:=(· = g)) (ht.trans h3) ⟨g,3,none⟩ rfl _
  have hE:EvsIn (fun b=>grow S w (wb.setCell ⟨g,3,none⟩ (.slice pb (n+1) cb)) b∧b≠g) (wb.setCell ⟨g,3,none⟩ (.slice pb (n+1) cb)) (.slice pb (n+1) cb) (st.log++[(3,w0,[])]) (n+1) (es++[.slice none 0 0]):=by
   have ho:=HO2.out
   rw[Nat.zero_add,List.nil_append,← HCS.out] at ho
   refine c1a HE.out HN.out.symm (hT.keeps fun b hb=>hb.2) (fun b hb=>⟨Or.inl hb.1,hb.2⟩) (Rd.set ho.rd ((a5x ho).mono fun b hb=>by have:=hb.1;omega)) ((a5x ho).mono fun b hb => ?_) ⟨none,0,rfl,a2g _ 2,a7d _⟩
   have:=HSZ.out
   exact⟨Or.inr ⟨by omega,by rw[a1p];exact hb.2⟩,by omega⟩
  go_ret
  exact⟨rfl,⟨_,_,_,_,b6w HA.out hT (a0g HRB.out _) ⟨es++[.slice none 0 0],by
   have:=HN.out
   rw[show (st.log++[((3:Int),w0,([]:List (Int×Int)))]).length=n+1 by simp[this]]
   exact hE⟩⟩,hT⟩
end dsk
end Go.Proofs.YtiaapfijbidgnaaGreatDoor
