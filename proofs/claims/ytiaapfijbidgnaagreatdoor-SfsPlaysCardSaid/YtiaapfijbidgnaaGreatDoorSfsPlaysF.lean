/- What SfsPlays wants, part 6. -/
import Derived.Test.YtiaapfijbidgnaaGreatDoorSfsPlaysA
import Derived.Test.YtiaapfijbidgnaaGreatDoorSfsPlaysB
import Derived.Test.YtiaapfijbidgnaaGreatDoorSfsPlaysC
import Derived.Test.YtiaapfijbidgnaaGreatDoorSfsPlaysE
import Derived.Deep.Cut
import Derived.Maps.OwnSet
set_option linter.unusedVariables false
set_option linter.unusedSimpArgs false
namespace Go.Proofs.YtiaapfijbidgnaaGreatDoor
namespace dsk
set_option maxRecDepth 100000
open Go.ChangeShapes Go.WideShapes Go.ChangeAt Go.RowKit
open rows
open sec
theorem At.touch{S:Nat→Prop}{w w':World}{g:Nat}{s:List Int}(h:At w g s)(ht:Touch S w w')(hs:¬S g):At w' g s:=(ht.block g (Array.getElem?_eq_some_iff.1 h).1 hs).trans h
theorem a2p{S:Nat→Prop}{w w':World}{g:Nat}{o:Obj}(h:w.heap[g]? = some o)(ht:Touch S w w')(hs:¬S g):w'.heap[g]? = some o:=(ht.block g (Array.getElem?_eq_some_iff.1 h).1 hs).trans h
theorem b5p{w:World}{g:Nat}{k i:Int}(h:w.heap[g]? = some (.cells #[.int .i64 k,.int .i64 i] 97 (0,0))):w.rangeAt g 0 [.int .i64 k,.int .i64 i]:=by
 have:=World.rangeAt_of_block h 0 2
 simpa using this
theorem a9w:(Tryz.prog.info? 97).map (·.size)=some 2:=by kernel_rfl
theorem b3a{ops:Array Oper}{S:World→Prop}{op:Oper}{a:Act}(hw:Region.wanted op (yielded ops a.tmps)=true)(x:Operand)(ho:op.op = .load 97 x)
  (b o:Nat) (hx:a.eval x = .pointer (some ⟨b,o,none⟩)) (k i:Int) (hS:∀w,S w→w.rangeAt b o [.int .i64 k,.int .i64 i]):YieldsIf Tryz.prog ops S op (.agg #[.int .i64 k,.int .i64 i]) a :=
 yieldsIf_load_mid hw _ x ho b o hx [.int .i64 k,.int .i64 i] _ hS b8j rfl (by rw[a9w];rfl)
def AtW(w:World)(g:Nat)(x:Wr):Prop:=w.heap[g]? = some (.cells x.c.toArray 99 (0,0))
theorem AtW.range{w:World}{g:Nat}{x:Wr}(h:AtW w g x):w.rangeAt g 0 x.c:=by
 have:=World.rangeAt_of_block h 0 x.c.toArray.size
 simpa using this
theorem a7h{w:World}{ops:Array Oper}{o:Oper}{a:Act}{K:Act→World→Prop}{Q:Exit→Act→World→Prop}{F:Prop}(hw:Region.wanted o (yielded ops a.tmps)=true)(x y:Operand)(ho:o.op = .store 99 x y)
  (g:Nat) (hx:a.eval x = .pointer (some ⟨g,0,none⟩)) (z old:Wr) (hy:a.eval y = .agg z.c.toArray) (hs:Sec z.s) (hold:Sec old.s) (hg:AtW w g old)
  (h:∀w',AtW w' g z→Below g w w'→K (a.put o.dst undef) w'):if Region.wanted o (yielded ops a.tmps)=true then Oper.wp Tryz.prog o a w K Q else F:=by
 rw[if_pos hw]
 refine wp_store_row 99 x y ho g z.c.toArray hx hy 99 _ hg (by rw[b0s];simp[Wr.c_len hs]) (by simp[Wr.c_len hs,Wr.c_len hold]) (by simp only[List.all_toArray];exact List.all_eq_true.2 (a3i z)) ?_
 exact h _ (setRow_heap w g _ _ _ _ hg) ((Below.refl g w).trans ⟨rfl,rfl,rfl,by simp[World.setRow],fun k hk=>setRow_other w g k _ (by omega)⟩)
def AfterWait(w2 wc:World)(g:Nat)(ps:Option Addr)(n cs:Nat)(pl:Option Addr)(l cl:Nat)(vb:Value)(st:St)(m:Nat)(x:Wr):Prop:=∃pq cq,wc.heap[g]? = some (.cells #[.slice ps n cs,.slice pq (m+1) cq,.int .i64 st.ep,.slice pl l cl,vb,.int .i64 (st.asked+1)] 56 (0,0)) ∧
 Own wc w2.heap.size 99 36 (.slice pq (m+1) cq) (m+1) (wrsC st.wait++x.c)∧Touch (· = g) w2 wc
set_option maxHeartbeats 3200000 in
theorem c3e(S:Nat→Prop)(g:Nat)(st:St)(w:World)(h:RefIs w S g st)(hf:st.few)(hsl:st.safe.length≤1000)(i:Int)(s:List Int)(k id:Int)(hs:Sec s)(hi:0≤i∧i<(st.safe.length:Int))(hn:asks st=false) :
  Calls Tryz.prog 133 #[.pointer (some ⟨g,0,none⟩),.int .i64 i,agg s,.agg #[.int .i64 k,.int .i64 id]] w (RefDone S g w (0,{ st with asked:=st.asked+1,wait:=st.wait++[⟨i,s,k,id,st.ep⟩],log:=st.log++[(1,⟨i,s,k,id,st.ep⟩,[])] })):=by
 obtain⟨vs,vw,vl,vb,h⟩:=h
 obtain⟨ps,cs,hvs⟩:=a7n h.safe
 subst hvs
 obtain⟨pw,cw,hvw⟩:=a7n h.wait
 subst hvw
 obtain⟨es,hes⟩:=h.log
 obtain⟨pl,cl,hvl⟩:=a7n hes.cells
 subst hvl
 obtain⟨W,hW⟩:∃W,W=(w.alloc (.cells (u8s s).toArray 95)).alloc (.cells #[.int .i64 k,.int .i64 id] 97):=⟨_,rfl⟩
 have hbW:Below w.heap.size w W:=by rw[hW];exact a0b (a0b (Below.refl _ _) _) _
 have hWs:W.heap.size=w.heap.size+1+1:=by rw[hW];simp
 have hA:=a4g h hbW
 have HA:=ι hA
 have hlt:=h.lt
 have HF:=ι (rfails' S g st _ _ _ vb W hA (by have:=hf.bn;omega) ⟨hf.as0,by have:=hf.as1;omega⟩)
 rw[show decide (st.asked∈st.bad)=false from hn] at HF
 have A60:Hid (At W w.heap.size s):=ι (by rw[hW];exact(at_new w s).alloc _)
 have A70:Hid (W.heap[w.heap.size+1]? = some (.cells #[.int .i64 k,.int .i64 id] 97 (0,0))):=ι (by
  rw[hW]
  have:=heap_alloc_new (w.alloc (.cells (u8s s).toArray 95)) (.cells #[.int .i64 k,.int .i64 id] 97)
  rwa [size_alloc] at this)
 have HE:=ι hes
 have HBW:=ι hbW
 have HW:=ι hW
 have HWS:=ι hWs
 have HS:=ι hs
 obtain⟨hi0,hi1⟩:=hi
 have d0:decide (i<0)=false:=by simp;omega
 have d1:decide ((st.safe.length:Int)≤i)=false:=by simp;omega
 have hep:=hf.ep0
 have hep1:=hf.ep1
 have hln:=hf.ln
 have hwn:=hf.wn
 generalize hnn:st.safe.length=n at *
 have HN:=ι hnn
 generalize hmm:st.wait.length=m at *
 have HM:=ι hmm
 generalize hll:st.log.length=l at *
 have HL:=ι hll
 clear h hA hbW hW hWs hn hf hes hs hnn hmm hll
 go_enter Tryz.func133,Tryz.ntmps133
 go_wp2_with fail
 rw[← HW.out]
 refine HF.out.mono ?_
 rintro e w1 ⟨rfl,hrow,ht,hsz⟩
 have c0:w1.cell? ⟨g,0,none⟩=some (.slice ps n cs):=a0c hrow 0 _ rfl
 have C2:Hid (w1.cell? ⟨g,2,none⟩=some (.int .i64 st.ep)):=ι (a0c hrow 2 _ rfl)
 have HROW:=ι hrow
 have A6:=ι (A60.out.touch ht (by omega))
 have A7:=ι (a2p A70.out ht (by omega))
 have HT:=ι ht
 have HSZ:Hid (w1.heap.size=w.heap.size+1+1):=ι (hsz.trans HWS.out)
 have hg1:g<w1.heap.size:=(Array.getElem?_eq_some_iff.1 hrow).1
 have hg6:w.heap.size<w1.heap.size:=by have:=HSZ.out;omega
 have hg7:w.heap.size+1<w1.heap.size:=by have:=HSZ.out;omega
 clear hrow ht hsz A60 A70
 go_wp2_with fail
 have h0:=Below.refl w1.drew.heap.size w1.drew
 refine wp_region_held_drew (S:=ext w1.drew) (by kernel_rfl) (Below.refl _ _) (fun hH0 => ?_)
 refine tk 0 rfl ?_
 refine tkv 1 rfl (a3v (by rfl) _ rfl w.heap.size 0 rfl s HS.out.1 (fun w' hw=>(A6.out.later (a0i hw)).range)) ?_
 refine tkv 2 rfl (b3a (by rfl) _ rfl (w.heap.size+1) 0 rfl k id (fun w' hw=>b5p (a0z A7.out (a0i hw) hg7))) ?_
 refine tk 3 rfl ?_
 refine tk 4 rfl ?_
 refine tk 5 rfl ?_
 refine tkv 6 rfl (a0l (by rfl) 3 _ a2t rfl _ rfl g 2 rfl (.int .i64 st.ep) (fun w' hw=>((a0i hw).cell (p:=⟨g,2,none⟩) hg1).trans C2.out)) ?_
 refine tkv 7 rfl (a3s (by rfl) 99 _ rfl [(0,.int .i64 i),(1,.agg (u8s s).toArray),(2,.agg #[.int .i64 k,.int .i64 id]),(3,.int .i64 st.ep)] rfl _ (c0s ⟨i,s,k,id,st.ep⟩ HS.out)) ?_
 refine rd 8 rfl (fun K hK => ?_)
 refine a3f b1j (by rfl) rfl ?_
 intro gx v1 hgx hrx hb1
 have h1:=a0a h0 hb1
 have HX:=ι hrx
 refine hK.out _ _ ?_ (fun hHeld => ?_)
 ·exact h1
 clear hK K hrx
 try simp only[Act.put,List.setIfInBounds_toArray,List.set_cons_zero,List.set_cons_succ]
 refine rd 9 rfl (fun K hK => ?_)
 refine a7h (by rfl) _ _ (by rfl) gx (by rfl) ⟨i,s,k,id,st.ep⟩ w0 (by rfl) HS.out a0p HX.out ?_
 intro w2 hx2 hb2
 have hb2':Below w1.heap.size w1 w2:=a0i (h1.trans (hb2.mono hgx))
 have HX2:=ι hx2
 refine hK.out _ _ ?_ (fun hHeld => ?_)
 ·exact h1.trans (hb2.mono hgx)
 clear hK K hx2
 try simp only[Act.put,List.setIfInBounds_toArray,List.set_cons_zero,List.set_cons_succ]
 refine wpAnyH_done (by kernel_rfl) ?_ _
 clear hHeld hH0
 have HROW2:=ι (a0z HROW.out hb2' hg1)
 have hg2:g<w2.heap.size:=Nat.lt_of_lt_of_le hg1 hb2'.size
 have hgx2:gx<w2.heap.size:=(Array.getElem?_eq_some_iff.1 HX2.out).1
 have hgxg:gx≠g:=by have:w1.heap.size≤gx:=hgx;omega
 have C1:Hid (w2.cell? ⟨g,1,none⟩=some (.slice pw m cw)):=ι (a0c HROW2.out 1 _ rfl)
 have HWT2:Hid (Rd w2 36 (.slice pw m cw) m (wrsC st.wait)):=ι (by
  have h1:=(HA.out.keepWait HT.out).1
  rw[HM.out] at h1
  exact h1.later hb2')
 have HWO:Hid (∀u∈wrsC st.wait,u.oneCell'=true):=ι (fun u hu=>by
  obtain⟨l,hl,hul⟩:=List.mem_flatten.1 hu
  obtain⟨x,_,rfl⟩:=List.mem_map.1 hl
  exact a3i x u hul)
 have HFIN7:∀(pq:Option Addr) (cq:Nat) (v9:World),Own v9 w2.heap.size 99 36 (.slice pq (0+m+1) cq) (0+m+1) ([]++wrsC st.wait++Wr.c (⟨i,s,k,id,st.ep⟩:Wr))→Below w2.drew.heap.size w2.drew v9 →
   v9.heap[g]? = some (.cells #[.slice ps n cs,.slice pw m cw,.int .i64 st.ep,.slice pl l cl,vb,.int .i64 (st.asked+1)] 56 (0,0))→AfterWait w2 (v9.setCell ⟨g,1,none⟩ (.slice pq (m+1) cq)) g ps n cs pl l cl vb st m (⟨i,s,k,id,st.ep⟩:Wr):=fun pq cq v9 ho hb hr=>by
  rw[Nat.zero_add,List.nil_append] at ho
  exact⟨pq,cq,a0g hr _,ownsRow_setCell_below ho (a:=⟨g,1,none⟩) hg2 _,Touch.setCell (S:=(· = g)) (Touch.of_below (a0i hb)) ⟨g,1,none⟩ rfl _⟩
 go_wp2_with fail
 go_cut [] from 33 (fun wc=>AfterWait w2 wc g ps n cs pl l cl vb st m (⟨i,s,k,id,st.ep⟩:Wr))
 case first =>
  have h0:=Below.refl w2.drew.heap.size w2.drew
  refine a2o (S:=ext w2.drew) 12 (by kernel_rfl) (Below.refl _ _) (fun hH0 => ?_)
  refine tl 0 rfl ?_
  refine tl 2 rfl ?_
  refine tl 3 rfl ?_
  refine tl 4 rfl ?_
  refine tlv 5 rfl (a0l (by rfl) 54 _ und_wrs rfl _ rfl g 1 rfl (.slice pw m cw) (fun w' hw=>((a0i hw).cell (p:=⟨g,1,none⟩) hg2).trans C1.out)) ?_
  refine tlv 7 rfl (b6a (by rfl) _ rfl gx 0 rfl (⟨i,s,k,id,st.ep⟩:Wr) HS.out (fun w' hw=>AtW.range (a0z HX2.out (a0i hw) hgx2))) ?_
  refine a0e (rs:=[1,8]) (by kernel_rfl) (by simp) ?_
  refine AllReadyL.cons (o:={ dst:=some 34,op:=Op.buildSlice 54 0 #[],type:=54,pos := "ref.go:61", after := #[],guard:=none }) rfl (fun K hK => ?_) (AllReadyL.cons (o:={ dst:=some 41,op:=Op.buildSlice 54 1 #[(0,Operand.tmp 40)],type:=54,pos := "ref.go:61", after := #[{ on:=7,ground:=Ground.data }],guard:=none }) rfl (fun K hK => ?_) AllReadyL.nil)
  ·refine a8a elem_wrs w2.heap.size (by rfl) rfl (h0).size ?_
   intro b1 v1 hv1 ho1 hb1
   have h1:=a0a h0 hb1
   have o1:=ι ho1
   clear ho1
   refine hK.out _ _ (Or.inr h1) (fun hHeld => ?_)
   clear hK K
   try simp only[Act.put,List.setIfInBounds_toArray,List.set_cons_zero,List.set_cons_succ]
   refine a0e (rs:=[6,8]) (by kernel_rfl) (by simp) ?_
   refine AllReadyL.cons (o:={ dst:=some 39,op:=Op.call { callee:=Callee.builtin Builtin.append,args := #[Operand.tmp 34,Operand.tmp 38],argTypes := #[54,54] },type:=54,pos := "ref.go:61", after := #[{ on:=1,ground:=Ground.data },{ on:=5,ground:=Ground.data }],guard:=none }) rfl (fun K hK => ?_) (AllReadyL.cons (o:={ dst:=some 41,op:=Op.buildSlice 54 1 #[(0,Operand.tmp 40)],type:=54,pos := "ref.go:61", after := #[{ on:=7,ground:=Ground.data }],guard:=none }) rfl (fun K hK => ?_) AllReadyL.nil)
   ·refine a2b elem_wrs (by rfl) (.tmp 34) (.tmp 38) rfl w2.heap.size (.slice (some ⟨b1,0,none⟩) 0 0) 0 [] rfl (by first|exact o1.out|exact a0o o1.out (by assumption)) _ m _ rfl (HWT2.out.later (a0i h1)) HWO.out (by omega) (h1).size ?_
    intro p6 c6 v2 ho2 hb2 ht6
    have h2:=(h1).trans hb2
    have o2:=ι ho2
    clear ho2
    refine hK.out _ _ (Or.inr h2) (fun hHeld => ?_)
    clear hK K
    try simp only[Act.put,List.setIfInBounds_toArray,List.set_cons_zero,List.set_cons_succ]
    refine a0e (rs:=[8]) (by kernel_rfl) (by simp) ?_
    refine AllReadyL.cons (o:={ dst:=some 41,op:=Op.buildSlice 54 1 #[(0,Operand.tmp 40)],type:=54,pos := "ref.go:61", after := #[{ on:=7,ground:=Ground.data }],guard:=none }) rfl (fun K hK => ?_) AllReadyL.nil
    refine a4o elem_wrs (by decide) (by rfl) (.tmp 40) rfl (Wr.c ⟨i,s,k,id,st.ep⟩) rfl (Wr.c_len HS.out) ?_
    intro b8 v3 hv8 hr3 hb3
    have h3:=a0a h2 hb3
    have r3:=ι hr3
    clear hr3
    refine hK.out _ _ (Or.inr h3) (fun hHeld => ?_)
    clear hK K
    try simp only[Act.put,List.setIfInBounds_toArray,List.set_cons_zero,List.set_cons_succ]
    refine a0e (rs:=[9]) (by kernel_rfl) (by simp) ?_
    refine AllReadyL.cons (o:={ dst:=some 42,op:=Op.call { callee:=Callee.builtin Builtin.append,args := #[Operand.tmp 39,Operand.tmp 41],argTypes := #[54,54] },type:=54,pos := "ref.go:61", after := #[{ on:=6,ground:=Ground.data },{ on:=8,ground:=Ground.data },{ on:=6,ground:=Ground.chain }],guard:=none }) rfl (fun K hK => ?_) AllReadyL.nil
    refine a2b elem_wrs (by rfl) (.tmp 39) (.tmp 41) rfl w2.heap.size _ (0+m) _ rfl (by first|exact o2.out|exact a0o o2.out (by assumption)) _ 1 _ rfl (by first|exact r3.out|exact Rd.apart r3.out ht6 (fun e=>by have e2:some b1=some b8:=e;have e3:=Option.some.inj e2;omega)|exact Rd.apart (r3.out.later (by assumption)) ht6 (fun e=>by have e2:some b1=some b8:=e;have e3:=Option.some.inj e2;omega)) (a3i _) (by omega) (h3).size ?_
    intro pq cq v9 ho4 hb4 ht9
    have h4:=(h3).trans hb4
    have o9:=ι ho4
    have h9:=ι h4
    clear ho4
    refine hK.out _ _ (Or.inr h4) (fun hHeld => ?_)
    clear hK K
    try simp only[Act.put,List.setIfInBounds_toArray,List.set_cons_zero,List.set_cons_succ]
    refine a0e (rs:=[10]) (by kernel_rfl) (by simp) ?_
    refine AllReadyL.cons (o:={ dst:=some 43,op:=Op.nilCheck (Operand.tmp 33),type:=0,pos := "ref.go:61", after := #[{ on:=0,ground:=Ground.data },{ on:=0,ground:=Ground.phase },{ on:=1,ground:=Ground.phase },{ on:=2,ground:=Ground.phase },{ on:=3,ground:=Ground.phase },{ on:=4,ground:=Ground.phase },{ on:=5,ground:=Ground.phase },{ on:=6,ground:=Ground.phase },{ on:=7,ground:=Ground.phase },{ on:=8,ground:=Ground.phase },{ on:=9,ground:=Ground.phase }],guard:=none }) rfl (fun K hK => ?_) AllReadyL.nil
    go_simp
    refine hK.out _ _ (Or.inr (by assumption)) (fun hHeld => ?_)
    clear hK K
    try simp only[Act.put,List.setIfInBounds_toArray,List.set_cons_zero,List.set_cons_succ]
    refine tl 11 rfl ?_
    refine a0e (rs:=[12]) (by kernel_rfl) (by simp) ?_
    refine AllReadyL.cons (o:={ dst:=none,op:=Op.store 54 (Operand.tmp 44) (Operand.tmp 42),type:=0,pos := "ref.go:61", after := #[{ on:=11,ground:=Ground.data },{ on:=9,ground:=Ground.data },{ on:=9,ground:=Ground.chain },{ on:=0,ground:=Ground.phase },{ on:=1,ground:=Ground.phase },{ on:=2,ground:=Ground.phase },{ on:=3,ground:=Ground.phase },{ on:=4,ground:=Ground.phase },{ on:=5,ground:=Ground.phase },{ on:=6,ground:=Ground.phase },{ on:=7,ground:=Ground.phase },{ on:=8,ground:=Ground.phase },{ on:=9,ground:=Ground.phase }],guard:=none }) rfl (fun K hK => ?_) AllReadyL.nil
    have hrow12:=a0z HROW2.out (a0i h9.out) hg2
    have c12:=a0c hrow12 1 (.slice pw m cw) rfl
    have z12:=a0d hrow12 1
    have HR12:=ι hrow12
    clear hrow12
    go_simp
    refine hK.out _ _ (Or.inl rfl) (fun hHeld => ?_)
    clear hK K c12 z12
    try simp only[Act.put,List.setIfInBounds_toArray,List.set_cons_zero,List.set_cons_succ]
    refine a1w (by kernel_rfl) ?_ _
    go_wp2_with fail
    go_meet
    case rel=>exact HFIN7 _ _ _ o9.out h9.out HR12.out
   ·refine a4o elem_wrs (by decide) (by rfl) (.tmp 40) rfl (Wr.c ⟨i,s,k,id,st.ep⟩) rfl (Wr.c_len HS.out) ?_
    intro b8 v7 hv8 hr7 hb7
    have h7:=a0a h1 hb7
    have r7:=ι hr7
    clear hr7
    refine hK.out _ _ (Or.inr h7) (fun hHeld => ?_)
    clear hK K
    try simp only[Act.put,List.setIfInBounds_toArray,List.set_cons_zero,List.set_cons_succ]
    refine a0e (rs:=[6]) (by kernel_rfl) (by simp) ?_
    refine AllReadyL.cons (o:={ dst:=some 39,op:=Op.call { callee:=Callee.builtin Builtin.append,args := #[Operand.tmp 34,Operand.tmp 38],argTypes := #[54,54] },type:=54,pos := "ref.go:61", after := #[{ on:=1,ground:=Ground.data },{ on:=5,ground:=Ground.data }],guard:=none }) rfl (fun K hK => ?_) AllReadyL.nil
    refine a2b elem_wrs (by rfl) (.tmp 34) (.tmp 38) rfl w2.heap.size (.slice (some ⟨b1,0,none⟩) 0 0) 0 [] rfl (by first|exact o1.out|exact a0o o1.out (by assumption)) _ m _ rfl (HWT2.out.later (a0i h7)) HWO.out (by omega) (h7).size ?_
    intro p6 c6 v8 ho8 hb8 ht6
    have h8:=(h7).trans hb8
    have o8:=ι ho8
    clear ho8
    refine hK.out _ _ (Or.inr h8) (fun hHeld => ?_)
    clear hK K
    try simp only[Act.put,List.setIfInBounds_toArray,List.set_cons_zero,List.set_cons_succ]
    refine a0e (rs:=[9]) (by kernel_rfl) (by simp) ?_
    refine AllReadyL.cons (o:={ dst:=some 42,op:=Op.call { callee:=Callee.builtin Builtin.append,args := #[Operand.tmp 39,Operand.tmp 41],argTypes := #[54,54] },type:=54,pos := "ref.go:61", after := #[{ on:=6,ground:=Ground.data },{ on:=8,ground:=Ground.data },{ on:=6,ground:=Ground.chain }],guard:=none }) rfl (fun K hK => ?_) AllReadyL.nil
    refine a2b elem_wrs (by rfl) (.tmp 39) (.tmp 41) rfl w2.heap.size _ (0+m) _ rfl (by first|exact o8.out|exact a0o o8.out (by assumption)) _ 1 _ rfl (by first|exact r7.out|exact Rd.apart r7.out ht6 (fun e=>by have e2:some b1=some b8:=e;have e3:=Option.some.inj e2;omega)|exact Rd.apart (r7.out.later (by assumption)) ht6 (fun e=>by have e2:some b1=some b8:=e;have e3:=Option.some.inj e2;omega)) (a3i _) (by omega) (h8).size ?_
    intro pq cq v9 ho9 hb9 ht9
    have h9:=(h8).trans hb9
    have o9:=ι ho9
    have h9:=ι h9
    clear ho9
    refine hK.out _ _ (Or.inr h9) (fun hHeld => ?_)
    clear hK K
    try simp only[Act.put,List.setIfInBounds_toArray,List.set_cons_zero,List.set_cons_succ]
    refine a0e (rs:=[10]) (by kernel_rfl) (by simp) ?_
    refine AllReadyL.cons (o:={ dst:=some 43,op:=Op.nilCheck (Operand.tmp 33),type:=0,pos := "ref.go:61", after := #[{ on:=0,ground:=Ground.data },{ on:=0,ground:=Ground.phase },{ on:=1,ground:=Ground.phase },{ on:=2,ground:=Ground.phase },{ on:=3,ground:=Ground.phase },{ on:=4,ground:=Ground.phase },{ on:=5,ground:=Ground.phase },{ on:=6,ground:=Ground.phase },{ on:=7,ground:=Ground.phase },{ on:=8,ground:=Ground.phase },{ on:=9,ground:=Ground.phase }],guard:=none }) rfl (fun K hK => ?_) AllReadyL.nil
    go_simp
    refine hK.out _ _ (Or.inr (by assumption)) (fun hHeld => ?_)
    clear hK K
    try simp only[Act.put,List.setIfInBounds_toArray,List.set_cons_zero,List.set_cons_succ]
    refine tl 11 rfl ?_
    refine a0e (rs:=[12]) (by kernel_rfl) (by simp) ?_
    refine AllReadyL.cons (o:={ dst:=none,op:=Op.store 54 (Operand.tmp 44) (Operand.tmp 42),type:=0,pos := "ref.go:61", after := #[{ on:=11,ground:=Ground.data },{ on:=9,ground:=Ground.data },{ on:=9,ground:=Ground.chain },{ on:=0,ground:=Ground.phase },{ on:=1,ground:=Ground.phase },{ on:=2,ground:=Ground.phase },{ on:=3,ground:=Ground.phase },{ on:=4,ground:=Ground.phase },{ on:=5,ground:=Ground.phase },{ on:=6,ground:=Ground.phase },{ on:=7,ground:=Ground.phase },{ on:=8,ground:=Ground.phase },{ on:=9,ground:=Ground.phase }],guard:=none }) rfl (fun K hK => ?_) AllReadyL.nil
    have hrow12:=a0z HROW2.out (a0i h9.out) hg2
    have c12:=a0c hrow12 1 (.slice pw m cw) rfl
    have z12:=a0d hrow12 1
    have HR12:=ι hrow12
    clear hrow12
    go_simp
    refine hK.out _ _ (Or.inl rfl) (fun hHeld => ?_)
    clear hK K c12 z12
    try simp only[Act.put,List.setIfInBounds_toArray,List.set_cons_zero,List.set_cons_succ]
    refine a1w (by kernel_rfl) ?_ _
    go_wp2_with fail
    go_meet
    case rel=>exact HFIN7 _ _ _ o9.out h9.out HR12.out
  ·refine a4o elem_wrs (by decide) (by rfl) (.tmp 40) rfl (Wr.c ⟨i,s,k,id,st.ep⟩) rfl (Wr.c_len HS.out) ?_
   intro b8 v12 hv8 hr12 hb12
   have h12:=a0a h0 hb12
   have r12:=ι hr12
   clear hr12
   refine hK.out _ _ (Or.inr h12) (fun hHeld => ?_)
   clear hK K
   try simp only[Act.put,List.setIfInBounds_toArray,List.set_cons_zero,List.set_cons_succ]
   refine a0e (rs:=[1]) (by kernel_rfl) (by simp) ?_
   refine AllReadyL.cons (o:={ dst:=some 34,op:=Op.buildSlice 54 0 #[],type:=54,pos := "ref.go:61", after := #[],guard:=none }) rfl (fun K hK => ?_) AllReadyL.nil
   refine a8a elem_wrs w2.heap.size (by rfl) rfl (h12).size ?_
   intro b1 v13 hv1 ho13 hb13
   have h13:=a0a h12 hb13
   have o13:=ι ho13
   clear ho13
   refine hK.out _ _ (Or.inr h13) (fun hHeld => ?_)
   clear hK K
   try simp only[Act.put,List.setIfInBounds_toArray,List.set_cons_zero,List.set_cons_succ]
   refine a0e (rs:=[6]) (by kernel_rfl) (by simp) ?_
   refine AllReadyL.cons (o:={ dst:=some 39,op:=Op.call { callee:=Callee.builtin Builtin.append,args := #[Operand.tmp 34,Operand.tmp 38],argTypes := #[54,54] },type:=54,pos := "ref.go:61", after := #[{ on:=1,ground:=Ground.data },{ on:=5,ground:=Ground.data }],guard:=none }) rfl (fun K hK => ?_) AllReadyL.nil
   refine a2b elem_wrs (by rfl) (.tmp 34) (.tmp 38) rfl w2.heap.size (.slice (some ⟨b1,0,none⟩) 0 0) 0 [] rfl (by first|exact o13.out|exact a0o o13.out (by assumption)) _ m _ rfl (HWT2.out.later (a0i h13)) HWO.out (by omega) (h13).size ?_
   intro p6 c6 v14 ho14 hb14 ht6
   have h14:=(h13).trans hb14
   have o14:=ι ho14
   clear ho14
   refine hK.out _ _ (Or.inr h14) (fun hHeld => ?_)
   clear hK K
   try simp only[Act.put,List.setIfInBounds_toArray,List.set_cons_zero,List.set_cons_succ]
   refine a0e (rs:=[9]) (by kernel_rfl) (by simp) ?_
   refine AllReadyL.cons (o:={ dst:=some 42,op:=Op.call { callee:=Callee.builtin Builtin.append,args := #[Operand.tmp 39,Operand.tmp 41],argTypes := #[54,54] },type:=54,pos := "ref.go:61", after := #[{ on:=6,ground:=Ground.data },{ on:=8,ground:=Ground.data },{ on:=6,ground:=Ground.chain }],guard:=none }) rfl (fun K hK => ?_) AllReadyL.nil
   refine a2b elem_wrs (by rfl) (.tmp 39) (.tmp 41) rfl w2.heap.size _ (0+m) _ rfl (by first|exact o14.out|exact a0o o14.out (by assumption)) _ 1 _ rfl (by first|exact r12.out|exact Rd.apart r12.out ht6 (fun e=>by have e2:some b1=some b8:=e;have e3:=Option.some.inj e2;omega)|exact Rd.apart (r12.out.later (by assumption)) ht6 (fun e=>by have e2:some b1=some b8:=e;have e3:=Option.some.inj e2;omega)) (a3i _) (by omega) (h14).size ?_
   intro pq cq v9 ho15 hb15 ht9
   have h15:=(h14).trans hb15
   have o9:=ι ho15
   have h9:=ι h15
   clear ho15
   refine hK.out _ _ (Or.inr h15) (fun hHeld => ?_)
   clear hK K
   try simp only[Act.put,List.setIfInBounds_toArray,List.set_cons_zero,List.set_cons_succ]
   refine a0e (rs:=[10]) (by kernel_rfl) (by simp) ?_
   refine AllReadyL.cons (o:={ dst:=some 43,op:=Op.nilCheck (Operand.tmp 33),type:=0,pos := "ref.go:61", after := #[{ on:=0,ground:=Ground.data },{ on:=0,ground:=Ground.phase },{ on:=1,ground:=Ground.phase },{ on:=2,ground:=Ground.phase },{ on:=3,ground:=Ground.phase },{ on:=4,ground:=Ground.phase },{ on:=5,ground:=Ground.phase },{ on:=6,ground:=Ground.phase },{ on:=7,ground:=Ground.phase },{ on:=8,ground:=Ground.phase },{ on:=9,ground:=Ground.phase }],guard:=none }) rfl (fun K hK => ?_) AllReadyL.nil
   go_simp
   refine hK.out _ _ (Or.inr (by assumption)) (fun hHeld => ?_)
   clear hK K
   try simp only[Act.put,List.setIfInBounds_toArray,List.set_cons_zero,List.set_cons_succ]
   refine tl 11 rfl ?_
   refine a0e (rs:=[12]) (by kernel_rfl) (by simp) ?_
   refine AllReadyL.cons (o:={ dst:=none,op:=Op.store 54 (Operand.tmp 44) (Operand.tmp 42),type:=0,pos := "ref.go:61", after := #[{ on:=11,ground:=Ground.data },{ on:=9,ground:=Ground.data },{ on:=9,ground:=Ground.chain },{ on:=0,ground:=Ground.phase },{ on:=1,ground:=Ground.phase },{ on:=2,ground:=Ground.phase },{ on:=3,ground:=Ground.phase },{ on:=4,ground:=Ground.phase },{ on:=5,ground:=Ground.phase },{ on:=6,ground:=Ground.phase },{ on:=7,ground:=Ground.phase },{ on:=8,ground:=Ground.phase },{ on:=9,ground:=Ground.phase }],guard:=none }) rfl (fun K hK => ?_) AllReadyL.nil
   have hrow12:=a0z HROW2.out (a0i h9.out) hg2
   have c12:=a0c hrow12 1 (.slice pw m cw) rfl
   have z12:=a0d hrow12 1
   have HR12:=ι hrow12
   clear hrow12
   go_simp
   refine hK.out _ _ (Or.inl rfl) (fun hHeld => ?_)
   clear hK K c12 z12
   try simp only[Act.put,List.setIfInBounds_toArray,List.set_cons_zero,List.set_cons_succ]
   refine a1w (by kernel_rfl) ?_ _
   go_wp2_with fail
   go_meet
   case rel=>exact HFIN7 _ _ _ o9.out h9.out HR12.out
 case rest =>
  obtain⟨pq,cq,hrq,hoq,htq⟩:=hcut
  clear HFIN7 HWO HWT2 C1 HROW2
  have hT1:Touch (· = g) W wc:=(HT.out.trans (Touch.of_below hb2')).trans htq
  have hgc:g<wc.heap.size:=(Array.getElem?_eq_some_iff.1 hrq).1
  have HRC:=ι hrq
  have HXC:Hid (AtW wc gx (⟨i,s,k,id,st.ep⟩:Wr)):=ι (a2p HX2.out htq hgxg)
  have hgxc:gx<wc.heap.size:=(Array.getElem?_eq_some_iff.1 HXC.out).1
  have C3:Hid (wc.cell? ⟨g,3,none⟩=some (.slice pl l cl)):=ι (a0c hrq 3 _ rfl)
  have HEC:=ι (a3m HE.out (S':=fun b=>S b∧b≠g) (Keeps.trans (Keeps.of_below HBW.out) (hT1.keeps fun b hb=>hb.2)) fun b hb=>hb)
  have HLT2:=ι HEC.out.cells
  have HLO:=ι (c1j HE.out)
  have HEO:=ι (a6x (1,(⟨i,s,k,id,st.ep⟩:Wr),[]) (.slice none 0 0) rfl)
  obtain⟨cl',hcl'⟩:∃c,((st.log.zip es).map fun x=>evC x.1 x.2).flatten=c:=⟨_,rfl⟩
  rw[hcl'] at HLT2 HLO
  have HCL:=ι hcl'
  have HOQ:=ι hoq
  have HT1:=ι hT1
  have HTQ:=ι htq
  clear hrq hcl' hoq hT1 htq
  have HFIN8:∀(pq2:Option Addr) (cq2:Nat) (v10:World),Own v10 wc.heap.size 143 38 (.slice pq2 (0+l+1) cq2) (0+l+1) ([]++cl'++evC (1,(⟨i,s,k,id,st.ep⟩:Wr),[]) (.slice none 0 0))→Below wc.drew.heap.size wc.drew v10 →
    v10.heap[g]? = some (.cells #[.slice ps n cs,.slice pq (m+1) cq,.int .i64 st.ep,.slice pl l cl,vb,.int .i64 (st.asked+1)] 56 (0,0))→RefDone S g w (0,{ st with asked:=st.asked+1,wait:=st.wait++[⟨i,s,k,id,st.ep⟩],log:=st.log++[(1,⟨i,s,k,id,st.ep⟩,[])] }) (.returned (.int .i64 0)) (v10.setCell ⟨g,3,none⟩ (.slice pq2 (l+1) cq2)):=fun pq2 cq2 v10 ho hb hr=>by
   rw[Nat.zero_add,List.nil_append,← HCL.out] at ho
   have hb':=a0i hb
   have hTW:Touch (· = g) W (v10.setCell ⟨g,3,none⟩ (.slice pq2 (l+1) cq2)):=Touch.setCell (S:=(· = g)) (HT1.out.trans (Touch.of_below hb')) ⟨g,3,none⟩ rfl _
   have hT:Touch (· = g) w (v10.setCell ⟨g,3,none⟩ (.slice pq2 (l+1) cq2)):=(Touch.of_below HBW.out).trans hTW
   have hsz:=a1p v10 ⟨g,3,none⟩ (.slice pq2 (l+1) cq2)
   have hgr:∀b,grow S W (v10.setCell ⟨g,3,none⟩ (.slice pq2 (l+1) cq2)) b∧b≠g→grow S w (v10.setCell ⟨g,3,none⟩ (.slice pq2 (l+1) cq2)) b∧b≠g:=fun b hb=>⟨by
    rcases hb.1 with h|h
    ·exact Or.inl h
    ·exact Or.inr ⟨by have:=HBW.out.size;omega,h.2⟩,hb.2⟩
   have hwW:=HBW.out.size
   have hWc:=HT1.out.size
   have hcv:=hb'.size
   have hw2:=HTQ.out.size
   have hw12:=hb2'.size
   have hWw1:=HT.out.size
   have hio:=a5x ho
   have hiq:=a5x HOQ.out
   have hn1:=HN.out
   have hm1:=HM.out
   have hl1:=HL.out
   refine⟨rfl,⟨_,_,_,_,a0g hr _,Or.inl HA.out.own,(HA.out.keepSafe hTW).1,(HA.out.keepSafe hTW).2.mono hgr,?_,?_,⟨es++[.slice none 0 0],?_⟩,(HA.out.keepBad hTW).1,(HA.out.keepBad hTW).2.mono hgr⟩,hT⟩
   ·show Rd _ 36 _ (st.wait++[(⟨i,s,k,id,st.ep⟩:Wr)]).length (wrsC (st.wait++[(⟨i,s,k,id,st.ep⟩:Wr)]))
    have e1:(st.wait++[(⟨i,s,k,id,st.ep⟩:Wr)]).length=m+1:=by simp[hm1]
    have e2:wrsC (st.wait++[(⟨i,s,k,id,st.ep⟩:Wr)])=wrsC st.wait++Wr.c (⟨i,s,k,id,st.ep⟩:Wr):=by simp[wrsC]
    rw[e1,e2]
    exact Rd.set (HOQ.out.rd.later hb') (hiq.mono fun b hb=>by have:=hb.1;omega)
   ·exact hiq.mono fun b hb=>⟨Or.inr ⟨by have:=hb.1;omega,by rw[hsz];have:=hb.2;omega⟩,by have:=hb.1;omega⟩
   ·show EvsIn _ _ _ (st.log++[(1,(⟨i,s,k,id,st.ep⟩:Wr),[])]) (st.log++[(1,(⟨i,s,k,id,st.ep⟩:Wr),[])]).length _
    have e1:(st.log++[(1,(⟨i,s,k,id,st.ep⟩:Wr),[])]).length=l+1:=by simp[hl1]
    rw[e1]
    exact c1a HE.out hl1.symm (hT.keeps fun b hb=>hb.2) (fun b hb=>⟨Or.inl hb.1,hb.2⟩) (Rd.set ho.rd (hio.mono fun b hb=>by have:=hb.1;omega)) (hio.mono fun b hb=>⟨Or.inr ⟨by have:=hb.1;omega,by rw[hsz];exact hb.2⟩,by have:=hb.1;omega⟩) ⟨none,0,rfl,a2g _ 2,a7d _⟩
  go_wp2_with fail
  have h0:=Below.refl wc.drew.heap.size wc.drew
  refine a2o (S:=ext wc.drew) 13 (by kernel_rfl) (Below.refl _ _) (fun hH0 => ?_)
  refine tl 0 rfl ?_
  refine tl 2 rfl ?_
  refine tl 3 rfl ?_
  refine tl 4 rfl ?_
  refine tlv 5 rfl (a0l (by rfl) 52 _ d1b rfl _ rfl g 3 rfl (.slice pl l cl) (fun w' hw=>((a0i hw).cell (p:=⟨g,3,none⟩) hgc).trans C3.out)) ?_
  refine tlv 7 rfl (b6a (by rfl) _ rfl gx 0 rfl (⟨i,s,k,id,st.ep⟩:Wr) HS.out (fun w' hw=>AtW.range (a0z HXC.out (a0i hw) hgxc))) ?_
  refine tlv 8 rfl (a3s (by rfl) 143 _ rfl [(0,.int .i64 1),(1,.agg (Wr.c ⟨i,s,k,id,st.ep⟩).toArray)] rfl _ (b6h ⟨i,s,k,id,st.ep⟩ HS.out)) ?_
  refine a0e (rs:=[1,9]) (by kernel_rfl) (by simp) ?_
  refine AllReadyL.cons (o:={ dst:=some 46,op:=Op.buildSlice 52 0 #[],type:=52,pos := "ref.go:62", after := #[],guard:=none }) rfl (fun K hK => ?_) (AllReadyL.cons (o:={ dst:=some 54,op:=Op.buildSlice 52 1 #[(0,Operand.tmp 53)],type:=52,pos := "ref.go:62", after := #[{ on:=8,ground:=Ground.data }],guard:=none }) rfl (fun K hK => ?_) AllReadyL.nil)
  ·refine a8a a1l wc.heap.size (by rfl) rfl (h0).size ?_
   intro b1 v1 hv1 ho1 hb1
   have h1:=a0a h0 hb1
   have o1:=ι ho1
   clear ho1
   refine hK.out _ _ (Or.inr h1) (fun hHeld => ?_)
   clear hK K
   try simp only[Act.put,List.setIfInBounds_toArray,List.set_cons_zero,List.set_cons_succ]
   refine a0e (rs:=[6,9]) (by kernel_rfl) (by simp) ?_
   refine AllReadyL.cons (o:={ dst:=some 51,op:=Op.call { callee:=Callee.builtin Builtin.append,args := #[Operand.tmp 46,Operand.tmp 50],argTypes := #[52,52] },type:=52,pos := "ref.go:62", after := #[{ on:=1,ground:=Ground.data },{ on:=5,ground:=Ground.data }],guard:=none }) rfl (fun K hK => ?_) (AllReadyL.cons (o:={ dst:=some 54,op:=Op.buildSlice 52 1 #[(0,Operand.tmp 53)],type:=52,pos := "ref.go:62", after := #[{ on:=8,ground:=Ground.data }],guard:=none }) rfl (fun K hK => ?_) AllReadyL.nil)
   ·refine a2b a1l (by rfl) (.tmp 46) (.tmp 50) rfl wc.heap.size (.slice (some ⟨b1,0,none⟩) 0 0) 0 [] rfl (by first|exact o1.out|exact a0o o1.out (by assumption)) _ l _ rfl (HLT2.out.later (a0i h1)) HLO.out (by omega) (h1).size ?_
    intro p6 c6 v2 ho2 hb2 ht6
    have h2:=(h1).trans hb2
    have o2:=ι ho2
    clear ho2
    refine hK.out _ _ (Or.inr h2) (fun hHeld => ?_)
    clear hK K
    try simp only[Act.put,List.setIfInBounds_toArray,List.set_cons_zero,List.set_cons_succ]
    refine a0e (rs:=[9]) (by kernel_rfl) (by simp) ?_
    refine AllReadyL.cons (o:={ dst:=some 54,op:=Op.buildSlice 52 1 #[(0,Operand.tmp 53)],type:=52,pos := "ref.go:62", after := #[{ on:=8,ground:=Ground.data }],guard:=none }) rfl (fun K hK => ?_) AllReadyL.nil
    refine a4o a1l (by decide) (by rfl) (.tmp 53) rfl (evC (1,(⟨i,s,k,id,st.ep⟩:Wr),[]) (.slice none 0 0)) rfl (a4u HS.out) ?_
    intro b9 v3 hv9 hr3 hb3
    have h3:=a0a h2 hb3
    have r3:=ι hr3
    clear hr3
    refine hK.out _ _ (Or.inr h3) (fun hHeld => ?_)
    clear hK K
    try simp only[Act.put,List.setIfInBounds_toArray,List.set_cons_zero,List.set_cons_succ]
    refine a0e (rs:=[10]) (by kernel_rfl) (by simp) ?_
    refine AllReadyL.cons (o:={ dst:=some 55,op:=Op.call { callee:=Callee.builtin Builtin.append,args := #[Operand.tmp 51,Operand.tmp 54],argTypes := #[52,52] },type:=52,pos := "ref.go:62", after := #[{ on:=6,ground:=Ground.data },{ on:=9,ground:=Ground.data },{ on:=6,ground:=Ground.chain }],guard:=none }) rfl (fun K hK => ?_) AllReadyL.nil
    refine a2b a1l (by rfl) (.tmp 51) (.tmp 54) rfl wc.heap.size _ (0+l) _ rfl (by first|exact o2.out|exact a0o o2.out (by assumption)) _ 1 _ rfl (by first|exact r3.out|exact Rd.apart r3.out ht6 (fun e=>by have e2:some b1=some b9:=e;have e3:=Option.some.inj e2;omega)|exact Rd.apart (r3.out.later (by assumption)) ht6 (fun e=>by have e2:some b1=some b9:=e;have e3:=Option.some.inj e2;omega)) HEO.out (by omega) (h3).size ?_
    intro pq2 cq2 v10 ho4 hb4 ht10
    have h4:=(h3).trans hb4
    have o10:=ι ho4
    have h10:=ι h4
    clear ho4
    refine hK.out _ _ (Or.inr h4) (fun hHeld => ?_)
    clear hK K
    try simp only[Act.put,List.setIfInBounds_toArray,List.set_cons_zero,List.set_cons_succ]
    refine a0e (rs:=[11]) (by kernel_rfl) (by simp) ?_
    refine AllReadyL.cons (o:={ dst:=some 56,op:=Op.nilCheck (Operand.tmp 45),type:=0,pos := "ref.go:62", after := #[{ on:=0,ground:=Ground.data },{ on:=0,ground:=Ground.phase },{ on:=1,ground:=Ground.phase },{ on:=2,ground:=Ground.phase },{ on:=3,ground:=Ground.phase },{ on:=4,ground:=Ground.phase },{ on:=5,ground:=Ground.phase },{ on:=6,ground:=Ground.phase },{ on:=7,ground:=Ground.phase },{ on:=8,ground:=Ground.phase },{ on:=9,ground:=Ground.phase },{ on:=10,ground:=Ground.phase }],guard:=none }) rfl (fun K hK => ?_) AllReadyL.nil
    go_simp
    refine hK.out _ _ (Or.inr (by assumption)) (fun hHeld => ?_)
    clear hK K
    try simp only[Act.put,List.setIfInBounds_toArray,List.set_cons_zero,List.set_cons_succ]
    refine tl 12 rfl ?_
    refine a0e (rs:=[13]) (by kernel_rfl) (by simp) ?_
    refine AllReadyL.cons (o:={ dst:=none,op:=Op.store 52 (Operand.tmp 57) (Operand.tmp 55),type:=0,pos := "ref.go:62", after := #[{ on:=12,ground:=Ground.data },{ on:=10,ground:=Ground.data },{ on:=10,ground:=Ground.chain },{ on:=0,ground:=Ground.phase },{ on:=1,ground:=Ground.phase },{ on:=2,ground:=Ground.phase },{ on:=3,ground:=Ground.phase },{ on:=4,ground:=Ground.phase },{ on:=5,ground:=Ground.phase },{ on:=6,ground:=Ground.phase },{ on:=7,ground:=Ground.phase },{ on:=8,ground:=Ground.phase },{ on:=9,ground:=Ground.phase },{ on:=10,ground:=Ground.phase }],guard:=none }) rfl (fun K hK => ?_) AllReadyL.nil
    have hrow13:=a0z HRC.out (a0i h10.out) hgc
    have c13:=a0c hrow13 3 (.slice pl l cl) rfl
    have z13:=a0d hrow13 3
    have HR13:=ι hrow13
    clear hrow13
    go_simp
    refine hK.out _ _ (Or.inl rfl) (fun hHeld => ?_)
    clear hK K c13 z13
    try simp only[Act.put,List.setIfInBounds_toArray,List.set_cons_zero,List.set_cons_succ]
    refine a1w (by kernel_rfl) ?_ _
    go_wp2_with fail
    have hfin:=HFIN8 _ _ _ o10.out h10.out HR13.out
    go_ret
    exact hfin
   ·refine a4o a1l (by decide) (by rfl) (.tmp 53) rfl (evC (1,(⟨i,s,k,id,st.ep⟩:Wr),[]) (.slice none 0 0)) rfl (a4u HS.out) ?_
    intro b9 v7 hv9 hr7 hb7
    have h7:=a0a h1 hb7
    have r7:=ι hr7
    clear hr7
    refine hK.out _ _ (Or.inr h7) (fun hHeld => ?_)
    clear hK K
    try simp only[Act.put,List.setIfInBounds_toArray,List.set_cons_zero,List.set_cons_succ]
    refine a0e (rs:=[6]) (by kernel_rfl) (by simp) ?_
    refine AllReadyL.cons (o:={ dst:=some 51,op:=Op.call { callee:=Callee.builtin Builtin.append,args := #[Operand.tmp 46,Operand.tmp 50],argTypes := #[52,52] },type:=52,pos := "ref.go:62", after := #[{ on:=1,ground:=Ground.data },{ on:=5,ground:=Ground.data }],guard:=none }) rfl (fun K hK => ?_) AllReadyL.nil
    refine a2b a1l (by rfl) (.tmp 46) (.tmp 50) rfl wc.heap.size (.slice (some ⟨b1,0,none⟩) 0 0) 0 [] rfl (by first|exact o1.out|exact a0o o1.out (by assumption)) _ l _ rfl (HLT2.out.later (a0i h7)) HLO.out (by omega) (h7).size ?_
    intro p6 c6 v8 ho8 hb8 ht6
    have h8:=(h7).trans hb8
    have o8:=ι ho8
    clear ho8
    refine hK.out _ _ (Or.inr h8) (fun hHeld => ?_)
    clear hK K
    try simp only[Act.put,List.setIfInBounds_toArray,List.set_cons_zero,List.set_cons_succ]
    refine a0e (rs:=[10]) (by kernel_rfl) (by simp) ?_
    refine AllReadyL.cons (o:={ dst:=some 55,op:=Op.call { callee:=Callee.builtin Builtin.append,args := #[Operand.tmp 51,Operand.tmp 54],argTypes := #[52,52] },type:=52,pos := "ref.go:62", after := #[{ on:=6,ground:=Ground.data },{ on:=9,ground:=Ground.data },{ on:=6,ground:=Ground.chain }],guard:=none }) rfl (fun K hK => ?_) AllReadyL.nil
    refine a2b a1l (by rfl) (.tmp 51) (.tmp 54) rfl wc.heap.size _ (0+l) _ rfl (by first|exact o8.out|exact a0o o8.out (by assumption)) _ 1 _ rfl (by first|exact r7.out|exact Rd.apart r7.out ht6 (fun e=>by have e2:some b1=some b9:=e;have e3:=Option.some.inj e2;omega)|exact Rd.apart (r7.out.later (by assumption)) ht6 (fun e=>by have e2:some b1=some b9:=e;have e3:=Option.some.inj e2;omega)) HEO.out (by omega) (h8).size ?_
    intro pq2 cq2 v10 ho9 hb9 ht10
    have h9:=(h8).trans hb9
    have o10:=ι ho9
    have h10:=ι h9
    clear ho9
    refine hK.out _ _ (Or.inr h9) (fun hHeld => ?_)
    clear hK K
    try simp only[Act.put,List.setIfInBounds_toArray,List.set_cons_zero,List.set_cons_succ]
    refine a0e (rs:=[11]) (by kernel_rfl) (by simp) ?_
    refine AllReadyL.cons (o:={ dst:=some 56,op:=Op.nilCheck (Operand.tmp 45),type:=0,pos := "ref.go:62", after := #[{ on:=0,ground:=Ground.data },{ on:=0,ground:=Ground.phase },{ on:=1,ground:=Ground.phase },{ on:=2,ground:=Ground.phase },{ on:=3,ground:=Ground.phase },{ on:=4,ground:=Ground.phase },{ on:=5,ground:=Ground.phase },{ on:=6,ground:=Ground.phase },{ on:=7,ground:=Ground.phase },{ on:=8,ground:=Ground.phase },{ on:=9,ground:=Ground.phase },{ on:=10,ground:=Ground.phase }],guard:=none }) rfl (fun K hK => ?_) AllReadyL.nil
    go_simp
    refine hK.out _ _ (Or.inr (by assumption)) (fun hHeld => ?_)
    clear hK K
    try simp only[Act.put,List.setIfInBounds_toArray,List.set_cons_zero,List.set_cons_succ]
    refine tl 12 rfl ?_
    refine a0e (rs:=[13]) (by kernel_rfl) (by simp) ?_
    refine AllReadyL.cons (o:={ dst:=none,op:=Op.store 52 (Operand.tmp 57) (Operand.tmp 55),type:=0,pos := "ref.go:62", after := #[{ on:=12,ground:=Ground.data },{ on:=10,ground:=Ground.data },{ on:=10,ground:=Ground.chain },{ on:=0,ground:=Ground.phase },{ on:=1,ground:=Ground.phase },{ on:=2,ground:=Ground.phase },{ on:=3,ground:=Ground.phase },{ on:=4,ground:=Ground.phase },{ on:=5,ground:=Ground.phase },{ on:=6,ground:=Ground.phase },{ on:=7,ground:=Ground.phase },{ on:=8,ground:=Ground.phase },{ on:=9,ground:=Ground.phase },{ on:=10,ground:=Ground.phase }],guard:=none }) rfl (fun K hK => ?_) AllReadyL.nil
    have hrow13:=a0z HRC.out (a0i h10.out) hgc
    have c13:=a0c hrow13 3 (.slice pl l cl) rfl
    have z13:=a0d hrow13 3
    have HR13:=ι hrow13
    clear hrow13
    go_simp
    refine hK.out _ _ (Or.inl rfl) (fun hHeld => ?_)
    clear hK K c13 z13
    try simp only[Act.put,List.setIfInBounds_toArray,List.set_cons_zero,List.set_cons_succ]
    refine a1w (by kernel_rfl) ?_ _
    go_wp2_with fail
    have hfin:=HFIN8 _ _ _ o10.out h10.out HR13.out
    go_ret
    exact hfin
  ·refine a4o a1l (by decide) (by rfl) (.tmp 53) rfl (evC (1,(⟨i,s,k,id,st.ep⟩:Wr),[]) (.slice none 0 0)) rfl (a4u HS.out) ?_
   intro b9 v12 hv9 hr12 hb12
   have h12:=a0a h0 hb12
   have r12:=ι hr12
   clear hr12
   refine hK.out _ _ (Or.inr h12) (fun hHeld => ?_)
   clear hK K
   try simp only[Act.put,List.setIfInBounds_toArray,List.set_cons_zero,List.set_cons_succ]
   refine a0e (rs:=[1]) (by kernel_rfl) (by simp) ?_
   refine AllReadyL.cons (o:={ dst:=some 46,op:=Op.buildSlice 52 0 #[],type:=52,pos := "ref.go:62", after := #[],guard:=none }) rfl (fun K hK => ?_) AllReadyL.nil
   refine a8a a1l wc.heap.size (by rfl) rfl (h12).size ?_
   intro b1 v13 hv1 ho13 hb13
   have h13:=a0a h12 hb13
   have o13:=ι ho13
   clear ho13
   refine hK.out _ _ (Or.inr h13) (fun hHeld => ?_)
   clear hK K
   try simp only[Act.put,List.setIfInBounds_toArray,List.set_cons_zero,List.set_cons_succ]
   refine a0e (rs:=[6]) (by kernel_rfl) (by simp) ?_
   refine AllReadyL.cons (o:={ dst:=some 51,op:=Op.call { callee:=Callee.builtin Builtin.append,args := #[Operand.tmp 46,Operand.tmp 50],argTypes := #[52,52] },type:=52,pos := "ref.go:62", after := #[{ on:=1,ground:=Ground.data },{ on:=5,ground:=Ground.data }],guard:=none }) rfl (fun K hK => ?_) AllReadyL.nil
   refine a2b a1l (by rfl) (.tmp 46) (.tmp 50) rfl wc.heap.size (.slice (some ⟨b1,0,none⟩) 0 0) 0 [] rfl (by first|exact o13.out|exact a0o o13.out (by assumption)) _ l _ rfl (HLT2.out.later (a0i h13)) HLO.out (by omega) (h13).size ?_
   intro p6 c6 v14 ho14 hb14 ht6
   have h14:=(h13).trans hb14
   have o14:=ι ho14
   clear ho14
   refine hK.out _ _ (Or.inr h14) (fun hHeld => ?_)
   clear hK K
   try simp only[Act.put,List.setIfInBounds_toArray,List.set_cons_zero,List.set_cons_succ]
   refine a0e (rs:=[10]) (by kernel_rfl) (by simp) ?_
   refine AllReadyL.cons (o:={ dst:=some 55,op:=Op.call { callee:=Callee.builtin Builtin.append,args := #[Operand.tmp 51,Operand.tmp 54],argTypes := #[52,52] },type:=52,pos := "ref.go:62", after := #[{ on:=6,ground:=Ground.data },{ on:=9,ground:=Ground.data },{ on:=6,ground:=Ground.chain }],guard:=none }) rfl (fun K hK => ?_) AllReadyL.nil
   refine a2b a1l (by rfl) (.tmp 51) (.tmp 54) rfl wc.heap.size _ (0+l) _ rfl (by first|exact o14.out|exact a0o o14.out (by assumption)) _ 1 _ rfl (by first|exact r12.out|exact Rd.apart r12.out ht6 (fun e=>by have e2:some b1=some b9:=e;have e3:=Option.some.inj e2;omega)|exact Rd.apart (r12.out.later (by assumption)) ht6 (fun e=>by have e2:some b1=some b9:=e;have e3:=Option.some.inj e2;omega)) HEO.out (by omega) (h14).size ?_
   intro pq2 cq2 v10 ho15 hb15 ht10
   have h15:=(h14).trans hb15
   have o10:=ι ho15
   have h10:=ι h15
   clear ho15
   refine hK.out _ _ (Or.inr h15) (fun hHeld => ?_)
   clear hK K
   try simp only[Act.put,List.setIfInBounds_toArray,List.set_cons_zero,List.set_cons_succ]
   refine a0e (rs:=[11]) (by kernel_rfl) (by simp) ?_
   refine AllReadyL.cons (o:={ dst:=some 56,op:=Op.nilCheck (Operand.tmp 45),type:=0,pos := "ref.go:62", after := #[{ on:=0,ground:=Ground.data },{ on:=0,ground:=Ground.phase },{ on:=1,ground:=Ground.phase },{ on:=2,ground:=Ground.phase },{ on:=3,ground:=Ground.phase },{ on:=4,ground:=Ground.phase },{ on:=5,ground:=Ground.phase },{ on:=6,ground:=Ground.phase },{ on:=7,ground:=Ground.phase },{ on:=8,ground:=Ground.phase },{ on:=9,ground:=Ground.phase },{ on:=10,ground:=Ground.phase }],guard:=none }) rfl (fun K hK => ?_) AllReadyL.nil
   go_simp
   refine hK.out _ _ (Or.inr (by assumption)) (fun hHeld => ?_)
   clear hK K
   try simp only[Act.put,List.setIfInBounds_toArray,List.set_cons_zero,List.set_cons_succ]
   refine tl 12 rfl ?_
   refine a0e (rs:=[13]) (by kernel_rfl) (by simp) ?_
   refine AllReadyL.cons (o:={ dst:=none,op:=Op.store 52 (Operand.tmp 57) (Operand.tmp 55),type:=0,pos := "ref.go:62", after := #[{ on:=12,ground:=Ground.data },{ on:=10,ground:=Ground.data },{ on:=10,ground:=Ground.chain },{ on:=0,ground:=Ground.phase },{ on:=1,ground:=Ground.phase },{ on:=2,ground:=Ground.phase },{ on:=3,ground:=Ground.phase },{ on:=4,ground:=Ground.phase },{ on:=5,ground:=Ground.phase },{ on:=6,ground:=Ground.phase },{ on:=7,ground:=Ground.phase },{ on:=8,ground:=Ground.phase },{ on:=9,ground:=Ground.phase },{ on:=10,ground:=Ground.phase }],guard:=none }) rfl (fun K hK => ?_) AllReadyL.nil
   have hrow13:=a0z HRC.out (a0i h10.out) hgc
   have c13:=a0c hrow13 3 (.slice pl l cl) rfl
   have z13:=a0d hrow13 3
   have HR13:=ι hrow13
   clear hrow13
   go_simp
   refine hK.out _ _ (Or.inl rfl) (fun hHeld => ?_)
   clear hK K c13 z13
   try simp only[Act.put,List.setIfInBounds_toArray,List.set_cons_zero,List.set_cons_succ]
   refine a1w (by kernel_rfl) ?_ _
   go_wp2_with fail
   have hfin:=HFIN8 _ _ _ o10.out h10.out HR13.out
   go_ret
   exact hfin
theorem rwrite(S:Nat→Prop)(g:Nat)(st:St)(w:World)(h:RefIs w S g st)(hf:st.few)(hsl:st.safe.length≤1000)(i:Int)(s:List Int)(k id:Int)(hs:Sec s)(hi:(Lit.int .i64 i).wf=true) :
  Calls Tryz.prog 133 #[.pointer (some ⟨g,0,none⟩),.int .i64 i,agg s,.agg #[.int .i64 k,.int .i64 id]] w (RefDone S g w (writeR st i s k id)):=by
 by_cases hin:0≤i∧i<(st.safe.length:Int)
 ·by_cases ha:asks st=true
  ·have e:writeR st i s k id=(3,st.asked1):=by rw[writeR,if_pos hin,if_pos ha]
   have:=b6m S g st w h hf hsl i s k id hi (Or.inr ha)
   rw[if_pos hin] at this
   rw[e];exact this
  ·have e:writeR st i s k id=(0,{ st with asked:=st.asked+1,wait:=st.wait++[⟨i,s,k,id,st.ep⟩],log:=st.log++[(1,⟨i,s,k,id,st.ep⟩,[])] }):=by rw[writeR,if_pos hin,if_neg ha]
   rw[e]
   exact c3e S g st w h hf hsl i s k id hs hin (by simpa using ha)
 ·have e:writeR st i s k id=(1,st.asked1):=by rw[writeR,if_neg hin]
  have:=b6m S g st w h hf hsl i s k id hi (Or.inl hin)
  rw[if_neg hin] at this
  rw[e];exact this
end dsk
namespace dsk
set_option maxRecDepth 100000
open Go.ChangeShapes Go.WideShapes Go.ChangeAt Go.RowKit
open rows
open sec
def outStep(made:Wr→Bool)(o:List (List Int))(x:Wr):List (List Int):=if made x=true then o.set x.pos.toNat x.s else o
def outOf(made:Wr→Bool)(ws:List Wr)(safe:List (List Int)):List (List Int):=ws.foldl (outStep made) safe
theorem b7u(made:Wr→Bool):∀(ws:List Wr) (safe:List (List Int)),(outOf made ws safe).length=safe.length
 | [],safe=>rfl
 | x::t,safe=>by
  rw[outOf,List.foldl_cons]
  have:=b7u made t (outStep made safe x)
  rw[outOf] at this
  rw[this,outStep]
  split<;>simp
theorem b2m(made:Wr→Bool):∀(ws:List Wr) (safe:List (List Int)),Secs safe→(∀x∈ws,Sec x.s)→Secs (outOf made ws safe)
 | [],safe,h,_=>h
 | x::t,safe,h,hw=>by
  rw[outOf,List.foldl_cons]
  refine b2m made t _ ?_ fun y hy=>hw y (List.mem_cons_of_mem _ hy)
  rw[outStep]
  split
  ·exact a3z h (hw x (List.mem_cons_self ..)) _
  ·exact h
theorem a3o{w:World}{b o:Nat}{x:Wr}(hs:Sec x.s)(h:w.rangeAt b o x.c):w.cell? ⟨b,o,none⟩=some (.int .i64 x.pos)∧w.rangeAt b (o+1) (u8s x.s)∧w.cell? ⟨b,o+33,none⟩=some (.int .i64 x.kind)∧w.cell? ⟨b,o+34,none⟩=some (.int .i64 x.id)∧w.cell? ⟨b,o+35,none⟩=some (.int .i64 x.ep):=by
 have hl:(u8s x.s).length=32:=by simp[u8s,hs.1]
 obtain⟨h0,h1⟩:=c9q h
 refine⟨h0,h1,h 33 _ ?_,h 34 _ ?_,h 35 _ ?_⟩ <;>
 ·rw[Wr.c,List.getElem?_cons_succ,List.getElem?_append_right (by omega),hl];rfl
theorem c7h{w:World}{B g n c:Nat}{ss:List (List Int)}(h:Own w B 95 32 (.slice (some ⟨g,0,none⟩) n c) n (cellsOf ss))(hs:Secs ss){i:Nat}(hi:i<ss.length){s:List Int}(hl:Sec s) :
  ∃w',(storeVar 95 ⟨g,i * 32,none⟩ (.agg (u8s s).toArray)).run Tryz.prog w = .ok () w'∧Own w' B 95 32 (.slice (some ⟨g,0,none⟩) n c) n (cellsOf (ss.set i s))∧Touch (· = g) w w'∧B≤g:=by
 obtain⟨hlen,h2⟩:=h
 rcases h2 with⟨h2,_⟩|⟨g',cap,cur,h1,h2,h3,h4,h5,h6,h7⟩
 ·cases h2
 ·cases h1
  have hcl:=a0y hs
  have hsn:ss.length=n:=by omega
  have hus:=a5r s
  have hsz:i * 32+32≤cur.size:=by rw[h6];omega
  have h8:=run_storeCells_at (P:=Tryz.prog) g (i * 32) 95 (u8s s) 0 cur w h3 (by rw[hus,hl.1];omega) (a1y .u8 s)
  rw[Nat.add_zero,hus,hl.1] at h8
  have hput:=b1v u8s 32 ss i s (fun y hy=>by rw[a5r,(hs y hy).1]) (by rw[a5r,hl.1]) hi
  rw[← a4m,← a4m] at hput
  have hcut:cur.toList=cellsOf ss++cur.toList.drop (n * 32):=by rw[← h7,List.take_append_drop]
  have hnew:(cur.toList.take (i * 32)++u8s s++cur.toList.drop (i * 32+32))=cellsOf (ss.set i s)++cur.toList.drop (n * 32):=by
   rw[← hput]
   conv=>lhs;rw[hcut]
   rw[List.take_append_of_le_length (by rw[hcl];omega),List.drop_append_of_le_length (by rw[hcl];omega)]
   simp[List.append_assoc]
  refine⟨w.setRow g (cellsOf (ss.set i s)++cur.toList.drop (n * 32)).toArray,?_,⟨by rw[a0y (a3z hs hl i)];simp;omega,Or.inr ⟨g,c,_,rfl,h2,setRow_heap w g _ _ _ _ h3,h4,h5,?_,?_⟩⟩,a3u w g _,h2⟩
  ·rw[← hnew]
   cases hq:Tryz.prog.info? 95 with
   | none=>have:=a1k;simp[hq] at this
   | some q =>
    have hqs:q.size=32:=by have:=a1k;simpa [hq] using this
    have hc:(Value.agg (u8s s).toArray).cells=(u8s s).toArray:=rfl
    simp[storeVar,sizeOf,typeInfo,hq,hqs,hc,a5r,hl.1,h8]
  ·have hcs:(cellsOf (ss.set i s)).length=n * 32:=by rw[a0y (a3z hs hl i)];simp;omega
   simp[hcs,h6];omega
  ·have hcs:(cellsOf (ss.set i s)).length=n * 32:=by rw[a0y (a3z hs hl i)];simp;omega
   show (cellsOf (ss.set i s)++cur.toList.drop (n * 32)).take (n * 32)=_
   rw[← hcs,List.take_left]
theorem a4t{w:World}{ops:Array Oper}{o:Oper}{a:Act}{K:Act→World→Prop}{Q:Exit→Act→World→Prop}{F:Prop}(hw:Region.wanted o (yielded ops a.tmps)=true)(x y:Operand)(ho:o.op = .store 95 x y)
  (B g i n c:Nat) (hx:a.eval x = .pointer (some ⟨g,i * 32,none⟩)) (s:List Int) (hy:a.eval y = .agg (u8s s).toArray) (hl:Sec s) (ss:List (List Int)) (hs:Secs ss) (hi:i<ss.length) (hg:Own w B 95 32 (.slice (some ⟨g,0,none⟩) n c) n (cellsOf ss))
  (h:∀w',Own w' B 95 32 (.slice (some ⟨g,0,none⟩) n c) n (cellsOf (ss.set i s))→Touch (· = g) w w'→K (a.put o.dst undef) w'):if Region.wanted o (yielded ops a.tmps)=true then Oper.wp Tryz.prog o a w K Q else F:=by
 rw[if_pos hw]
 obtain⟨w',hrun,h1,h2,_⟩:=c7h hg hs hi hl
 unfold Oper.wp execOp
 simp only[ho,hx,hy,Instr.storeAt,Instr.sureAddr,Sem.run_bind,Sem.run_pure,Result.andThen_ok,hrun]
 exact h _ h1 h2
theorem c5k{w:World}{B:Nat}{e:TypeId}{sz n m g c:Nat}{cs:List Value}(h:Own w B e sz (.slice (some ⟨g,0,none⟩) m c) n cs):B≤g∧g<w.heap.size:=by
 rcases h.2 with⟨h2,_⟩|⟨g',cap,cur,h1,h2,h3,_⟩
 ·cases h2
 ·cases h1
  exact⟨h2,(Array.getElem?_eq_some_iff.1 h3).1⟩
theorem a6t{w:World}{B:Nat}{e:TypeId}{sz n c:Nat}{p:Option Addr}{cs:List Value}(h:Own w B e sz (.slice p n c) n cs)(hn:0<n):∃g,p=some ⟨g,0,none⟩:=by
 rcases h.2 with⟨h2,h3⟩|⟨g',cap,cur,h1,_⟩
 ·omega
 ·cases h1;exact⟨_,rfl⟩
theorem a7q{w:World}{B gm i:Nat}{e:TypeId}{sz n:Nat}{v u:Value}{cs:List Value}(h:Own w B e sz v n cs)(hne:∀g m c,v = .slice (some ⟨g,0,none⟩) m c→g≠gm):Own (w.setCell ⟨gm,i,none⟩ u) B e sz v n cs:=by
 refine⟨h.1,?_⟩
 rcases h.2 with h2|⟨g,cap,cur,hv,h3,h4,h5⟩
 ·exact Or.inl h2
 ·exact Or.inr ⟨g,cap,cur,hv,h3,(Below.heap_setCell _ _ _ _ (hne g _ _ hv)).trans h4,h5⟩
theorem own_base{w:World}{B B':Nat}{e:TypeId}{sz n:Nat}{v:Value}{cs:List Value}(h:Own w B e sz v n cs)(hB:B'≤B):Own w B' e sz v n cs:=by
 refine⟨h.1,?_⟩
 rcases h.2 with h2|⟨g,cap,cur,hv,h3,h4⟩
 ·exact Or.inl h2
 ·exact Or.inr ⟨g,cap,cur,hv,Nat.le_trans hB h3,h4⟩
end dsk
namespace dsk
set_option maxRecDepth 100000
open Go.ChangeShapes Go.WideShapes Go.ChangeAt Go.RowKit
open rows
open sec
structure St.fine (st:St):Prop where
 few:st.few
 n1:st.safe.length≤65
 pos:∀x∈st.wait,0≤x.pos∧x.pos<(st.safe.length:Int)
def CodeDone(CA:World→(Nat→Prop)→Value→St→Prop)(F:Nat→Prop)(d:Value)(w:World)(r:Int×St)(e:Ending)(w':World):Prop:=e = .returned (.int .i64 r.1)∧CA w' (grow F w w') d r.2∧Touch F w w'
def readR(st:St)(i:Int):Value:=if 0≤i∧i<(st.safe.length:Int) then .tuple #[agg (readOf st i.toNat),.int .i64 0] else .tuple #[agg zero32,.int .i64 1]
theorem b2z{w w':World}{S:Nat→Prop}{g:Nat}{st:St}(h:RefIs w S g st)(k:Keeps S w w'):RefIs w' S g st:=by
 obtain⟨vs,vw,vl,vb,h⟩:=h
 obtain⟨es,he⟩:=h.log
 have k2:Keeps (fun b=>S b∧b≠g) w w':=k.mono fun _ hb=>hb.1
 exact⟨vs,vw,vl,vb,(k.2 g h.lt h.own).trans h.row,h.own,Rd.kept h.safe h.safeS k2,h.safeS,Rd.kept h.wait h.waitS k2,h.waitS,⟨es,a3m he k2 fun _ hb=>hb⟩,Rd.kept h.bad h.badS k2,h.badS⟩
theorem RefIs.lt{w:World}{S:Nat→Prop}{g:Nat}{st:St}(h:RefIs w S g st):g<w.heap.size∧S g:=by
 obtain⟨vs,vw,vl,vb,h⟩:=h
 exact⟨h.lt,h.own⟩
end dsk
namespace dsk
set_option maxRecDepth 100000
open Go.ChangeShapes Go.WideShapes Go.ChangeAt Go.RowKit
open rows
open sec
end dsk
namespace dsk
open Go.ChangeShapes Go.WideShapes Go.ChangeAt Go.RowKit
open rows
open sec
end dsk
namespace dsk
open Go.ChangeShapes Go.WideShapes Go.ChangeAt Go.RowKit
open rows
open sec
end dsk
namespace dsk
open Go.ChangeShapes Go.WideShapes Go.ChangeAt Go.RowKit
open rows
open sec
end dsk
namespace dsk
open Go.ChangeShapes Go.WideShapes Go.ChangeAt Go.RowKit
open rows
open sec
end dsk
namespace dsk
open Go.ChangeShapes Go.WideShapes Go.ChangeAt Go.RowKit
open rows
open sec
structure St.good (k:Nat) (st:St):Prop where
 ss:Secs st.safe
 n1:st.safe.length≤65
 ws:∀x∈st.wait,Sec x.s∧0≤x.pos∧x.pos<(st.safe.length:Int)
 es:∀e∈st.log,Sec e.2.1.s∧e.2.2.length≤50
 wn:st.wait.length≤k
 ln:st.log.length≤k
 bn:st.bad.length≤50
 ep:0≤st.ep∧st.ep≤k
 asked:0≤st.asked∧st.asked≤k
theorem St.good.fine{k:Nat}{st:St}(h:st.good k)(hk:k≤900):st.fine :=
 ⟨⟨h.ss,fun x hx=>(h.ws x hx).1,fun e he=>(h.es e he).1,fun e he=>by have:=(h.es e he).2;omega,by have:=h.wn;omega,by have:=h.ln;omega,by have:=h.bn;omega,h.ep.1,by have:=h.ep.2;omega,h.asked.1,by have:=h.asked.2;omega⟩,h.n1,fun x hx=>(h.ws x hx).2⟩
end dsk
namespace dsk
set_option maxRecDepth 100000
open Go.ChangeShapes Go.WideShapes Go.ChangeAt Go.RowKit
open rows
open sec
theorem c0k(p:Option Addr)(n c:Nat)(w:World)(h:n≤200)(hn:n<1∨65<n) :
  Calls Tryz.prog 10 #[.slice p n c] w (Rt w (.tuple #[.pointer none,.int .i64 1])):=by
 have HN:=ι (rnew_no (n:Int) w (WalkArith.wf_i64 (by omega)) (by omega))
 have hn1:(n:Int)≤200:=by omega
 go_enter Tryz.func10,Tryz.ntmps10
 go_wp2_with (go_at_call 58;refine HN.out.mono ?_;rintro e w1 ⟨rfl,rfl⟩)
 go_ret2
 exact⟨rfl,Below.refl _ _⟩
end dsk
namespace dsk
set_option maxRecDepth 100000
open Go.ChangeShapes Go.WideShapes Go.ChangeAt Go.RowKit
open rows
open sec
open Go.Maps
def OwnS(S:Nat→Prop)(v:Value):Prop:=∀k,v.ownBlock=some k→S k
def Zn(F:Nat→Prop)(z:Nat→Nat)(k:Nat):Nat→Prop:=fun b=>F b∧z b=k
def seenOf(st:St):List (List Int):=outOf (fun _=>true) st.wait st.safe
structure LogIn (T:Nat→Prop) (w:World) (v:Value) (es:List Ev) (vs:List Value):Prop where
 len:vs.length=es.length
 own:Own w 0 143 38 v es.length ((es.zip vs).map fun x=>evC x.1 x.2).flatten
 tags:∀i (h:i<es.length),∃p c,vs[i]? = some (.slice p (es[i]).2.2.length c)∧Rd w 2 (.slice p (es[i]).2.2.length c) (es[i]).2.2.length (tagsC (es[i]).2.2)∧InS T (.slice p (es[i]).2.2.length c)
def FaultsIn(S:Nat→Prop)(w:World)(v:Value)(bad:List Int)(asked:Int):Prop :=
 (v = .map none∧bad=[]) ∨
 ∃b n,∃D:DataW Unit,v = .map (some b)∧S b∧n≤2000∧w.ownsMap Tryz.prog 3 unitElem b n D∧∀k:Int,wf64 k→asked≤k→Maps.has D (.int .i64 k)=decide (k∈bad)
structure CodeAt (w:World) (F:Nat→Prop) (z:Nat→Nat) (g:Nat) (st:St) (vs vw vn vl vf:Value):Prop where
 row:w.heap[g]? = some (.cells #[.pointer (some ⟨g,0,none⟩),vs,vw,vn,.int .i64 st.ep,vl,.int .i64 st.asked,vf] 104 (0,0))
 own:Zn F z 0 g
 safe:Own w 0 95 32 vs st.safe.length (cellsOf st.safe)
 safeS:OwnS (Zn F z 1) vs
 wait:Own w 0 99 36 vw st.wait.length (wrsC st.wait)
 waitS:OwnS (Zn F z 2) vw
 seen:Own w 0 95 32 vn st.safe.length (cellsOf (seenOf st))
 seenS:OwnS (Zn F z 3) vn
 log:∃es,LogIn (Zn F z 6) w vl st.log es
 logS:OwnS (Zn F z 4) vl
 faults:FaultsIn (Zn F z 5) w vf st.bad st.asked
 eps:∀x∈st.wait,0≤x.ep∧wf64 x.kind∧wf64 x.id
def CA(w:World)(F:Nat→Prop)(d:Value)(st:St):Prop:=∃z g vs vw vn vl vf,d = .pointer (some ⟨g,0,none⟩)∧CodeAt w F z g st vs vw vn vl vf
theorem a1i{S:Nat→Prop}{w w':World}{B:Nat}{e:TypeId}{sz n:Nat}{v:Value}{cs:List Value}(h:Own w B e sz v n cs)(hv:OwnS S v)(k:Keeps S w w'):Own w' B e sz v n cs:=by
 refine⟨h.1,?_⟩
 rcases h.2 with h2|⟨g,cap,cur,hw,h3,h4,h5⟩
 ·exact Or.inl h2
 ·exact Or.inr ⟨g,cap,cur,hw,h3,(k.2 g (Array.getElem?_eq_some_iff.1 h4).1 (hv g (by rw[hw];rfl))).trans h4,h5⟩
theorem a2f{w:World}{B:Nat}{e:TypeId}{sz n:Nat}{v:Value}{cs:List Value}(h:Own w B e sz v n cs){k:Nat}(hk:v.ownBlock=some k):B≤k∧k<w.heap.size:=World.ownsRow.lt h k hk
theorem OwnS.next{F F':Nat→Prop}{z z':Nat→Nat}{w:World}{B k:Nat}{e:TypeId}{sz n:Nat}{v:Value}{cs:List Value}(h:OwnS (Zn F z k) v)(o:Own w B e sz v n cs)(hF:∀b,F b→F' b)(hz:∀b,b<w.heap.size→z' b=z b):OwnS (Zn F' z' k) v :=
 fun b hb=>⟨hF b (h b hb).1,(hz b (a2f o hb).2).trans (h b hb).2⟩
theorem c0e(S:Nat→Prop):OwnS S (.slice none 0 0):=fun k hk=>by simp[Value.ownBlock] at hk
theorem b3h{T:Nat→Prop}{S:Nat→Prop}{w w':World}{v:Value}{es:List Ev}{vs:List Value}(h:LogIn T w v es vs)(hv:OwnS S v)(k:Keeps S w w')(k2:Keeps T w w'):LogIn T w' v es vs :=
 ⟨h.len,a1i h.own hv k,fun i hi=>by
  obtain⟨p,c,h1,h2,h3⟩:=h.tags i hi
  exact⟨p,c,h1,Rd.kept h2 h3 k2,h3⟩⟩
theorem LogIn.mono{T T':Nat→Prop}{w:World}{v:Value}{es:List Ev}{vs:List Value}(h:LogIn T w v es vs)(hT:∀b,b<w.heap.size→T b→T' b):LogIn T' w v es vs :=
 ⟨h.len,h.own,fun i hi=>by
  obtain⟨p,c,h1,h2,h3⟩:=h.tags i hi
  refine⟨p,c,h1,h2,fun a n c' hv hn => ?_⟩
  have hin:=h3 a n c' hv hn
  refine hT _ ?_ hin
  rcases h2 with⟨p',cap',e1,e2,_⟩|⟨b,off,cap',e1,_,_,_,hlt,_⟩
  ·rw[e1] at hv;cases hv;omega
  ·rw[e1] at hv;cases hv;exact hlt⟩
theorem a5n{S:Nat→Prop}{w w':World}{v:Value}{bad:List Int}{asked:Int}(h:FaultsIn S w v bad asked)(k:Keeps S w w'):FaultsIn S w' v bad asked:=by
 rcases h with h|⟨b,n,D,hv,hS,hn,ho,hk⟩
 ·exact Or.inl h
 ·refine Or.inr ⟨b,n,D,hv,hS,hn,?_,hk⟩
  have hlt:=ho.lt
  obtain⟨es,clock,hb,r⟩:=ho
  exact⟨es,clock,(k.2 b hlt hS).trans hb,r⟩
theorem FaultsIn.mono{S S':Nat→Prop}{w:World}{v:Value}{bad:List Int}{asked:Int}(h:FaultsIn S w v bad asked)(hS:∀b,b<w.heap.size→S b→S' b):FaultsIn S' w v bad asked:=by
 rcases h with h|⟨b,n,D,hv,hb,hn,ho,hk⟩
 ·exact Or.inl h
 ·exact Or.inr ⟨b,n,D,hv,hS b ho.lt hb,hn,ho,hk⟩
theorem b0i{S S':Nat→Prop}{w w':World}{v:Value}{bad:List Int}{asked:Int}(h:FaultsIn S w v bad asked)(k:Keeps S w w')(hS:∀b,b<w.heap.size→S b→S' b):FaultsIn S' w' v bad asked:=by
 rcases h with h|⟨b,n,D,hv,hb,hn,ho,hk⟩
 ·exact Or.inl h
 ·have hlt:=ho.lt
  obtain⟨es,clock,he,r⟩:=ho
  exact Or.inr ⟨b,n,D,hv,hS b hlt hb,hn,⟨es,clock,(k.2 b hlt hb).trans he,r⟩,hk⟩
theorem Zn.keeps{F:Nat→Prop}{z:Nat→Nat}{k:Nat}{w w':World}(h:Keeps F w w'):Keeps (Zn F z k) w w':=h.mono fun b hb=>hb.1
theorem a2s{w w':World}{F:Nat→Prop}{z:Nat→Nat}{g:Nat}{st:St}{vs vw vn vl vf:Value}(h:CodeAt w F z g st vs vw vn vl vf)(k:Keeps F w w'):CodeAt w' F z g st vs vw vn vl vf:=by
 obtain⟨es,he⟩:=h.log
 exact⟨(k.2 g (Array.getElem?_eq_some_iff.1 h.row).1 h.own.1).trans h.row,h.own,a1i h.safe h.safeS (Zn.keeps k),h.safeS,a1i h.wait h.waitS (Zn.keeps k),h.waitS,a1i h.seen h.seenS (Zn.keeps k),h.seenS,⟨es,b3h he h.logS (Zn.keeps k) (Zn.keeps k)⟩,h.logS,a5n h.faults (Zn.keeps k),h.eps⟩
theorem CodeAt.lt{w:World}{F:Nat→Prop}{z:Nat→Nat}{g:Nat}{st:St}{vs vw vn vl vf:Value}(h:CodeAt w F z g st vs vw vn vl vf):g<w.heap.size:=(Array.getElem?_eq_some_iff.1 h.row).1
theorem CodeAt.wider{w:World}{F F':Nat→Prop}{z z':Nat→Nat}{g:Nat}{st:St}{vs vw vn vl vf:Value}(h:CodeAt w F z g st vs vw vn vl vf)(hF:∀b,F b→F' b)(hz:∀b,b<w.heap.size→z' b=z b):CodeAt w F' z' g st vs vw vn vl vf:=by
 obtain⟨es,he⟩:=h.log
 exact⟨h.row,⟨hF _ h.own.1,(hz _ h.lt).trans h.own.2⟩,h.safe,h.safeS.next h.safe hF hz,h.wait,h.waitS.next h.wait hF hz,h.seen,h.seenS.next h.seen hF hz,⟨es,he.mono fun b hb hT=>⟨hF b hT.1,(hz b hb).trans hT.2⟩⟩,h.logS.next he.own hF hz,h.faults.mono fun b hb hT=>⟨hF b hT.1,(hz b hb).trans hT.2⟩,h.eps⟩
theorem a7p{F T:Nat→Prop}{z:Nat→Nat}{k:Nat}{w w':World}(h:Touch T w w')(hT:∀b,T b→¬(F b∧z b=k)):Keeps (Zn F z k) w w':=h.keeps fun b hb hb2=>hT b hb2 hb
theorem CodeAt.change{w w':World}{F T:Nat→Prop}{z:Nat→Nat}{g:Nat}{st:St}{vs vw vn vl vf:Value}(h:CodeAt w F z g st vs vw vn vl vf)(ht:Touch T w w')(h1:∀b,T b→¬(F b∧z b=1))(h2:∀b,T b→¬(F b∧z b=2))(h3:∀b,T b→¬(F b∧z b=3))(h4:∀b,T b→¬(F b∧z b=4))(h6:∀b,T b→¬(F b∧z b=6))
  {ep ask:Int} {vf':Value} {bad:List Int} (hr:w'.heap[g]? = some (.cells #[.pointer (some ⟨g,0,none⟩),vs,vw,vn,.int .i64 ep,vl,.int .i64 ask,vf'] 104 (0,0))) (hf:FaultsIn (Zn F z 5) w' vf' bad ask) :
  CodeAt w' F z g { st with ep:=ep,asked:=ask,bad:=bad } vs vw vn vl vf':=by
 obtain⟨es,he⟩:=h.log
 exact⟨hr,h.own,a1i h.safe h.safeS (a7p ht h1),h.safeS,a1i h.wait h.waitS (a7p ht h2),h.waitS,a1i h.seen h.seenS (a7p ht h3),h.seenS,⟨es,b3h he h.logS (a7p ht h4) (a7p ht h6)⟩,h.logS,hf,h.eps⟩
theorem b1p:Keyed Tryz.prog 3:=int_keyed Tryz.underlying3
theorem a3c:Tryz.prog.underlying 102=some (.map 3 200):=by kernel_rfl
theorem b6e(w:World):(zeroValue 200).run Tryz.prog w = .ok (.agg #[]) w:=by kernel_rfl
theorem a5v{k:Int}(h:wf64 k):keyOf Tryz.prog 3 (.int .i64 k)=some (.int .i64 k):=keyOf_int_mk Tryz.underlying3 h
theorem c4v(k:Int):WideAt.IsKeyLit (.int .i64 k):=trivial
end dsk
end Go.Proofs.YtiaapfijbidgnaaGreatDoor
