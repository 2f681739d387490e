/- What FlushPlays wants, part 6. -/
import Derived.Test.YtiaapfijbidgnaaGreatDoorFlushPlaysA
import Derived.Test.YtiaapfijbidgnaaGreatDoorFlushPlaysB
import Derived.Test.YtiaapfijbidgnaaGreatDoorFlushPlaysC
import Derived.Test.YtiaapfijbidgnaaGreatDoorFlushPlaysE
import Derived.Deep.Cut
import Derived.Maps.OwnSet
set_option linter.unusedVariables false
set_option linter.unusedSimpArgs false
namespace Go.Proofs.YtiaapfijbidgnaaGreatDoor
namespace dsk
set_option maxRecDepth 100000
open Go.ChangeShapes Go.WideShapes Go.ChangeAt Go.RowKit
open rows
open sec
theorem At.touch{S:Nat→Prop}{w w':World}{g:Nat}{s:List Int}(h:At w g s)(ht:Touch S w w')(hs:¬S g):At w' g s:=(ht.block g (Array.getElem?_eq_some_iff.1 h).1 hs).trans h
theorem a2j{S:Nat→Prop}{w w':World}{g:Nat}{o:Obj}(h:w.heap[g]? = some o)(ht:Touch S w w')(hs:¬S g):w'.heap[g]? = some o:=(ht.block g (Array.getElem?_eq_some_iff.1 h).1 hs).trans h
theorem b8a{w:World}{g:Nat}{k i:Int}(h:w.heap[g]? = some (.cells #[.int .i64 k,.int .i64 i] 97 (0,0))):w.rangeAt g 0 [.int .i64 k,.int .i64 i]:=by
 have:=World.rangeAt_of_block h 0 2
 simpa using this
theorem b0q:(Tryz.prog.info? 97).map (·.size)=some 2:=by kernel_rfl
theorem b3u{ops:Array Oper}{S:World→Prop}{op:Oper}{a:Act}(hw:Region.wanted op (yielded ops a.tmps)=true)(x:Operand)(ho:op.op = .load 97 x)
  (b o:Nat) (hx:a.eval x = .pointer (some ⟨b,o,none⟩)) (k i:Int) (hS:∀w,S w→w.rangeAt b o [.int .i64 k,.int .i64 i]):YieldsIf Tryz.prog ops S op (.agg #[.int .i64 k,.int .i64 i]) a :=
 yieldsIf_load_mid hw _ x ho b o hx [.int .i64 k,.int .i64 i] _ hS a9r rfl (by rw[b0q];rfl)
def AtW(w:World)(g:Nat)(x:Wr):Prop:=w.heap[g]? = some (.cells x.c.toArray 99 (0,0))
theorem AtW.range{w:World}{g:Nat}{x:Wr}(h:AtW w g x):w.rangeAt g 0 x.c:=by
 have:=World.rangeAt_of_block h 0 x.c.toArray.size
 simpa using this
theorem a8s{w:World}{ops:Array Oper}{o:Oper}{a:Act}{K:Act→World→Prop}{Q:Exit→Act→World→Prop}{F:Prop}(hw:Region.wanted o (yielded ops a.tmps)=true)(x y:Operand)(ho:o.op = .store 99 x y)
  (g:Nat) (hx:a.eval x = .pointer (some ⟨g,0,none⟩)) (z old:Wr) (hy:a.eval y = .agg z.c.toArray) (hs:Sec z.s) (hold:Sec old.s) (hg:AtW w g old)
  (h:∀w',AtW w' g z→Below g w w'→K (a.put o.dst undef) w'):if Region.wanted o (yielded ops a.tmps)=true then Oper.wp Tryz.prog o a w K Q else F:=by
 rw[if_pos hw]
 refine wp_store_row 99 x y ho g z.c.toArray hx hy 99 _ hg (by rw[a9l];simp[Wr.c_len hs]) (by simp[Wr.c_len hs,Wr.c_len hold]) (by simp only[List.all_toArray];exact List.all_eq_true.2 (a3a z)) ?_
 exact h _ (setRow_heap w g _ _ _ _ hg) ((Below.refl g w).trans ⟨rfl,rfl,rfl,by simp[World.setRow],fun k hk=>setRow_other w g k _ (by omega)⟩)
def AfterWait(w2 wc:World)(g:Nat)(ps:Option Addr)(n cs:Nat)(pl:Option Addr)(l cl:Nat)(vb:Value)(st:St)(m:Nat)(x:Wr):Prop:=∃pq cq,wc.heap[g]? = some (.cells #[.slice ps n cs,.slice pq (m+1) cq,.int .i64 st.ep,.slice pl l cl,vb,.int .i64 (st.asked+1)] 56 (0,0)) ∧
 Own wc w2.heap.size 99 36 (.slice pq (m+1) cq) (m+1) (wrsC st.wait++x.c)∧Touch (· = g) w2 wc
set_option maxHeartbeats 3200000 in
theorem c4f(S:Nat→Prop)(g:Nat)(st:St)(w:World)(h:RefIs w S g st)(hf:st.few)(hsl:st.safe.length≤1000)(i:Int)(s:List Int)(k id:Int)(hs:Sec s)(hi:0≤i∧i<(st.safe.length:Int))(hn:asks st=false) :
  Calls Tryz.prog 133 #[.pointer (some ⟨g,0,none⟩),.int .i64 i,agg s,.agg #[.int .i64 k,.int .i64 id]] w (RefDone S g w (0,{ st with asked:=st.asked+1,wait:=st.wait++[⟨i,s,k,id,st.ep⟩],log:=st.log++[(1,⟨i,s,k,id,st.ep⟩,[])] })):=by
 obtain⟨vs,vw,vl,vb,h⟩:=h
 obtain⟨ps,cs,hvs⟩:=a5k h.safe
 subst hvs
 obtain⟨pw,cw,hvw⟩:=a5k h.wait
 subst hvw
 obtain⟨es,hes⟩:=h.log
 obtain⟨pl,cl,hvl⟩:=a5k hes.cells
 subst hvl
 obtain⟨W,hW⟩:∃W,W=(w.alloc (.cells (u8s s).toArray 95)).alloc (.cells #[.int .i64 k,.int .i64 id] 97):=⟨_,rfl⟩
 have hbW:Below w.heap.size w W:=by rw[hW];exact a0b (a0b (Below.refl _ _) _) _
 have hWs:W.heap.size=w.heap.size+1+1:=by rw[hW];simp
 have hA:=a4v h hbW
 have HA:=ι hA
 have hlt:=h.lt
 have HF:=ι (rfails' S g st _ _ _ vb W hA (by have:=hf.bn;omega) ⟨hf.as0,by have:=hf.as1;omega⟩)
 rw[show decide (st.asked∈st.bad)=false from hn] at HF
 have A60:Hid (At W w.heap.size s):=ι (by rw[hW];exact(at_new w s).alloc _)
 have A70:Hid (W.heap[w.heap.size+1]? = some (.cells #[.int .i64 k,.int .i64 id] 97 (0,0))):=ι (by
  rw[hW]
  have:=heap_alloc_new (w.alloc (.cells (u8s s).toArray 95)) (.cells #[.int .i64 k,.int .i64 id] 97)
  rwa [size_alloc] at this)
 have HE:=ι hes
 have HBW:=ι hbW
 have HW:=ι hW
 have HWS:=ι hWs
 have HS:=ι hs
 obtain⟨hi0,hi1⟩:=hi
 have d0:decide (i<0)=false:=by simp;omega
 have d1:decide ((st.safe.length:Int)≤i)=false:=by simp;omega
 have hep:=hf.ep0
 have hep1:=hf.ep1
 have hln:=hf.ln
 have hwn:=hf.wn
 generalize hnn:st.safe.length=n at *
 have HN:=ι hnn
 generalize hmm:st.wait.length=m at *
 have HM:=ι hmm
 generalize hll:st.log.length=l at *
 have HL:=ι hll
 clear h hA hbW hW hWs hn hf hes hs hnn hmm hll
 go_enter Tryz.func133,Tryz.ntmps133
 go_wp2_with fail
 rw[← HW.out]
 refine HF.out.mono ?_
 rintro e w1 ⟨rfl,hrow,ht,hsz⟩
 have c0:w1.cell? ⟨g,0,none⟩=some (.slice ps n cs):=a0c hrow 0 _ rfl
 have C2:Hid (w1.cell? ⟨g,2,none⟩=some (.int .i64 st.ep)):=ι (a0c hrow 2 _ rfl)
 have HROW:=ι hrow
 have A6:=ι (A60.out.touch ht (by omega))
 have A7:=ι (a2j A70.out ht (by omega))
 have HT:=ι ht
 have HSZ:Hid (w1.heap.size=w.heap.size+1+1):=ι (hsz.trans HWS.out)
 have hg1:g<w1.heap.size:=(Array.getElem?_eq_some_iff.1 hrow).1
 have hg6:w.heap.size<w1.heap.size:=by have:=HSZ.out;omega
 have hg7:w.heap.size+1<w1.heap.size:=by have:=HSZ.out;omega
 clear hrow ht hsz A60 A70
 go_wp2_with fail
 have h0:=Below.refl w1.drew.heap.size w1.drew
 refine wp_region_held_drew (S:=ext w1.drew) (by kernel_rfl) (Below.refl _ _) (fun hH0 => ?_)
 refine tk 0 rfl ?_
 refine tkv 1 rfl (a4i (by rfl) _ rfl w.heap.size 0 rfl s HS.out.1 (fun w' hw=>(A6.out.later (a0h hw)).range)) ?_
 refine tkv 2 rfl (b3u (by rfl) _ rfl (w.heap.size+1) 0 rfl k id (fun w' hw=>b8a (a0n A7.out (a0h hw) hg7))) ?_
 refine tk 3 rfl ?_
 refine tk 4 rfl ?_
 refine tk 5 rfl ?_
 refine tkv 6 rfl (a0k (by rfl) 3 _ a2m rfl _ rfl g 2 rfl (.int .i64 st.ep) (fun w' hw=>((a0h hw).cell (p:=⟨g,2,none⟩) hg1).trans C2.out)) ?_
 refine tkv 7 rfl (a3d (by rfl) 99 _ rfl [(0,.int .i64 i),(1,.agg (u8s s).toArray),(2,.agg #[.int .i64 k,.int .i64 id]),(3,.int .i64 st.ep)] rfl _ (c1w ⟨i,s,k,id,st.ep⟩ HS.out)) ?_
 refine rd 8 rfl (fun K hK => ?_)
 refine a3v b1v (by rfl) rfl ?_
 intro gx v1 hgx hrx hb1
 have h1:=a0a h0 hb1
 have HX:=ι hrx
 refine hK.out _ _ ?_ (fun hHeld => ?_)
 ·exact h1
 clear hK K hrx
 try simp only[Act.put,List.setIfInBounds_toArray,List.set_cons_zero,List.set_cons_succ]
 refine rd 9 rfl (fun K hK => ?_)
 refine a8s (by rfl) _ _ (by rfl) gx (by rfl) ⟨i,s,k,id,st.ep⟩ w0 (by rfl) HS.out a0o HX.out ?_
 intro w2 hx2 hb2
 have hb2':Below w1.heap.size w1 w2:=a0h (h1.trans (hb2.mono hgx))
 have HX2:=ι hx2
 refine hK.out _ _ ?_ (fun hHeld => ?_)
 ·exact h1.trans (hb2.mono hgx)
 clear hK K hx2
 try simp only[Act.put,List.setIfInBounds_toArray,List.set_cons_zero,List.set_cons_succ]
 refine wpAnyH_done (by kernel_rfl) ?_ _
 clear hHeld hH0
 have HROW2:=ι (a0n HROW.out hb2' hg1)
 have hg2:g<w2.heap.size:=Nat.lt_of_lt_of_le hg1 hb2'.size
 have hgx2:gx<w2.heap.size:=(Array.getElem?_eq_some_iff.1 HX2.out).1
 have hgxg:gx≠g:=by have:w1.heap.size≤gx:=hgx;omega
 have C1:Hid (w2.cell? ⟨g,1,none⟩=some (.slice pw m cw)):=ι (a0c HROW2.out 1 _ rfl)
 have HWT2:Hid (Rd w2 36 (.slice pw m cw) m (wrsC st.wait)):=ι (by
  have h1:=(HA.out.keepWait HT.out).1
  rw[HM.out] at h1
  exact h1.later hb2')
 have HWO:Hid (∀u∈wrsC st.wait,u.oneCell'=true):=ι (fun u hu=>by
  obtain⟨l,hl,hul⟩:=List.mem_flatten.1 hu
  obtain⟨x,_,rfl⟩:=List.mem_map.1 hl
  exact a3a x u hul)
 have HFIN7:∀(pq:Option Addr) (cq:Nat) (v9:World),Own v9 w2.heap.size 99 36 (.slice pq (0+m+1) cq) (0+m+1) ([]++wrsC st.wait++Wr.c (⟨i,s,k,id,st.ep⟩:Wr))→Below w2.drew.heap.size w2.drew v9 →
   v9.heap[g]? = some (.cells #[.slice ps n cs,.slice pw m cw,.int .i64 st.ep,.slice pl l cl,vb,.int .i64 (st.asked+1)] 56 (0,0))→AfterWait w2 (v9.setCell ⟨g,1,none⟩ (.slice pq (m+1) cq)) g ps n cs pl l cl vb st m (⟨i,s,k,id,st.ep⟩:Wr):=fun pq cq v9 ho hb hr=>by
  rw[Nat.zero_add,List.nil_append] at ho
  exact⟨pq,cq,a0e hr _,ownsRow_setCell_below ho (a:=⟨g,1,none⟩) hg2 _,Touch.setCell (S:=(· = g)) (Touch.of_below (a0h hb)) ⟨g,1,none⟩ rfl _⟩
 go_wp2_with fail
 go_cut [] from 33 (fun wc=>AfterWait w2 wc g ps n cs pl l cl vb st m (⟨i,s,k,id,st.ep⟩:Wr))
 case first =>
  have h0:=Below.refl w2.drew.heap.size w2.drew
  refine a2k (S:=ext w2.drew) 12 (by kernel_rfl) (Below.refl _ _) (fun hH0 => ?_)
  refine tl 0 rfl ?_
  refine tl 2 rfl ?_
  refine tl 3 rfl ?_
  refine tl 4 rfl ?_
  refine tlv 5 rfl (a0k (by rfl) 54 _ und_wrs rfl _ rfl g 1 rfl (.slice pw m cw) (fun w' hw=>((a0h hw).cell (p:=⟨g,1,none⟩) hg2).trans C1.out)) ?_
  refine tlv 7 rfl (b3b (by rfl) _ rfl gx 0 rfl (⟨i,s,k,id,st.ep⟩:Wr) HS.out (fun w' hw=>AtW.range (a0n HX2.out (a0h hw) hgx2))) ?_
  refine a0f (rs:=[1,8]) (by kernel_rfl) (by simp) ?_
  refine AllReadyL.cons (o:={ dst:=some 34,op:=Op.buildSlice 54 0 #[],type:=54,pos := "ref.go:61", after := #[],guard:=none }) rfl (fun K hK => ?_) (AllReadyL.cons (o:={ dst:=some 41,op:=Op.buildSlice 54 1 #[(0,Operand.tmp 40)],type:=54,pos := "ref.go:61", after := #[{ on:=7,ground:=Ground.data }],guard:=none }) rfl (fun K hK => ?_) AllReadyL.nil)
  ·refine a8y elem_wrs w2.heap.size (by rfl) rfl (h0).size ?_
   intro b1 v1 hv1 ho1 hb1
   have h1:=a0a h0 hb1
   have o1:=ι ho1
   clear ho1
   refine hK.out _ _ (Or.inr h1) (fun hHeld => ?_)
   clear hK K
   try simp only[Act.put,List.setIfInBounds_toArray,List.set_cons_zero,List.set_cons_succ]
   refine a0f (rs:=[6,8]) (by kernel_rfl) (by simp) ?_
   refine AllReadyL.cons (o:={ dst:=some 39,op:=Op.call { callee:=Callee.builtin Builtin.append,args := #[Operand.tmp 34,Operand.tmp 38],argTypes := #[54,54] },type:=54,pos := "ref.go:61", after := #[{ on:=1,ground:=Ground.data },{ on:=5,ground:=Ground.data }],guard:=none }) rfl (fun K hK => ?_) (AllReadyL.cons (o:={ dst:=some 41,op:=Op.buildSlice 54 1 #[(0,Operand.tmp 40)],type:=54,pos := "ref.go:61", after := #[{ on:=7,ground:=Ground.data }],guard:=none }) rfl (fun K hK => ?_) AllReadyL.nil)
   ·refine a2f elem_wrs (by rfl) (.tmp 34) (.tmp 38) rfl w2.heap.size (.slice (some ⟨b1,0,none⟩) 0 0) 0 [] rfl (by first|exact o1.out|exact a0p o1.out (by assumption)) _ m _ rfl (HWT2.out.later (a0h h1)) HWO.out (by omega) (h1).size ?_
    intro p6 c6 v2 ho2 hb2 ht6
    have h2:=(h1).trans hb2
    have o2:=ι ho2
    clear ho2
    refine hK.out _ _ (Or.inr h2) (fun hHeld => ?_)
    clear hK K
    try simp only[Act.put,List.setIfInBounds_toArray,List.set_cons_zero,List.set_cons_succ]
    refine a0f (rs:=[8]) (by kernel_rfl) (by simp) ?_
    refine AllReadyL.cons (o:={ dst:=some 41,op:=Op.buildSlice 54 1 #[(0,Operand.tmp 40)],type:=54,pos := "ref.go:61", after := #[{ on:=7,ground:=Ground.data }],guard:=none }) rfl (fun K hK => ?_) AllReadyL.nil
    refine a4p elem_wrs (by decide) (by rfl) (.tmp 40) rfl (Wr.c ⟨i,s,k,id,st.ep⟩) rfl (Wr.c_len HS.out) ?_
    intro b8 v3 hv8 hr3 hb3
    have h3:=a0a h2 hb3
    have r3:=ι hr3
    clear hr3
    refine hK.out _ _ (Or.inr h3) (fun hHeld => ?_)
    clear hK K
    try simp only[Act.put,List.setIfInBounds_toArray,List.set_cons_zero,List.set_cons_succ]
    refine a0f (rs:=[9]) (by kernel_rfl) (by simp) ?_
    refine AllReadyL.cons (o:={ dst:=some 42,op:=Op.call { callee:=Callee.builtin Builtin.append,args := #[Operand.tmp 39,Operand.tmp 41],argTypes := #[54,54] },type:=54,pos := "ref.go:61", after := #[{ on:=6,ground:=Ground.data },{ on:=8,ground:=Ground.data },{ on:=6,ground:=Ground.chain }],guard:=none }) rfl (fun K hK => ?_) AllReadyL.nil
    refine a2f elem_wrs (by rfl) (.tmp 39) (.tmp 41) rfl w2.heap.size _ (0+m) _ rfl (by first|exact o2.out|exact a0p o2.out (by assumption)) _ 1 _ rfl (by first|exact r3.out|exact Rd.apart r3.out ht6 (fun e=>by have e2:some b1=some b8:=e;have e3:=Option.some.inj e2;omega)|exact Rd.apart (r3.out.later (by assumption)) ht6 (fun e=>by have e2:some b1=some b8:=e;have e3:=Option.some.inj e2;omega)) (a3a _) (by omega) (h3).size ?_
    intro pq cq v9 ho4 hb4 ht9
    have h4:=(h3).trans hb4
    have o9:=ι ho4
    have h9:=ι h4
    clear ho4
    refine hK.out _ _ (Or.inr h4) (fun hHeld => ?_)
    clear hK K
    try simp only[Act.put,List.setIfInBounds_toArray,List.set_cons_zero,List.set_cons_succ]
    refine a0f (rs:=[10]) (by kernel_rfl) (by simp) ?_
    refine AllReadyL.cons (o:={ dst:=some 43,op:=Op.nilCheck (Operand.tmp 33),type:=0,pos := "ref.go:61", after := #[{ on:=0,ground:=Ground.data },{ on:=0,ground:=Ground.phase },{ on:=1,ground:=Ground.phase },{ on:=2,ground:=Ground.phase },{ on:=3,ground:=Ground.phase },{ on:=4,ground:=Ground.phase },{ on:=5,ground:=Ground.phase },{ on:=6,ground:=Ground.phase },{ on:=7,ground:=Ground.phase },{ on:=8,ground:=Ground.phase },{ on:=9,ground:=Ground.phase }],guard:=none }) rfl (fun K hK => ?_) AllReadyL.nil
    go_simp
    refine hK.out _ _ (Or.inr (by assumption)) (fun hHeld => ?_)
    clear hK K
    try simp only[Act.put,List.setIfInBounds_toArray,List.set_cons_zero,List.set_cons_succ]
    refine tl 11 rfl ?_
    refine a0f (rs:=[12]) (by kernel_rfl) (by simp) ?_
    refine AllReadyL.cons (o:={ dst:=none,op:=Op.store 54 (Operand.tmp 44) (Operand.tmp 42),type:=0,pos := "ref.go:61", after := #[{ on:=11,ground:=Ground.data },{ on:=9,ground:=Ground.data },{ on:=9,ground:=Ground.chain },{ on:=0,ground:=Ground.phase },{ on:=1,ground:=Ground.phase },{ on:=2,ground:=Ground.phase },{ on:=3,ground:=Ground.phase },{ on:=4,ground:=Ground.phase },{ on:=5,ground:=Ground.phase },{ on:=6,ground:=Ground.phase },{ on:=7,ground:=Ground.phase },{ on:=8,ground:=Ground.phase },{ on:=9,ground:=Ground.phase }],guard:=none }) rfl (fun K hK => ?_) AllReadyL.nil
    have hrow12:=a0n HROW2.out (a0h h9.out) hg2
    have c12:=a0c hrow12 1 (.slice pw m cw) rfl
    have z12:=a0d hrow12 1
    have HR12:=ι hrow12
    clear hrow12
    go_simp
    refine hK.out _ _ (Or.inl rfl) (fun hHeld => ?_)
    clear hK K c12 z12
    try simp only[Act.put,List.setIfInBounds_toArray,List.set_cons_zero,List.set_cons_succ]
    refine a1w (by kernel_rfl) ?_ _
    go_wp2_with fail
    go_meet
    case rel=>exact HFIN7 _ _ _ o9.out h9.out HR12.out
   ·refine a4p elem_wrs (by decide) (by rfl) (.tmp 40) rfl (Wr.c ⟨i,s,k,id,st.ep⟩) rfl (Wr.c_len HS.out) ?_
    intro b8 v7 hv8 hr7 hb7
    have h7:=a0a h1 hb7
    have r7:=ι hr7
    clear hr7
    refine hK.out _ _ (Or.inr h7) (fun hHeld => ?_)
    clear hK K
    try simp only[Act.put,List.setIfInBounds_toArray,List.set_cons_zero,List.set_cons_succ]
    refine a0f (rs:=[6]) (by kernel_rfl) (by simp) ?_
    refine AllReadyL.cons (o:={ dst:=some 39,op:=Op.call { callee:=Callee.builtin Builtin.append,args := #[Operand.tmp 34,Operand.tmp 38],argTypes := #[54,54] },type:=54,pos := "ref.go:61", after := #[{ on:=1,ground:=Ground.data },{ on:=5,ground:=Ground.data }],guard:=none }) rfl (fun K hK => ?_) AllReadyL.nil
    refine a2f elem_wrs (by rfl) (.tmp 34) (.tmp 38) rfl w2.heap.size (.slice (some ⟨b1,0,none⟩) 0 0) 0 [] rfl (by first|exact o1.out|exact a0p o1.out (by assumption)) _ m _ rfl (HWT2.out.later (a0h h7)) HWO.out (by omega) (h7).size ?_
    intro p6 c6 v8 ho8 hb8 ht6
    have h8:=(h7).trans hb8
    have o8:=ι ho8
    clear ho8
    refine hK.out _ _ (Or.inr h8) (fun hHeld => ?_)
    clear hK K
    try simp only[Act.put,List.setIfInBounds_toArray,List.set_cons_zero,List.set_cons_succ]
    refine a0f (rs:=[9]) (by kernel_rfl) (by simp) ?_
    refine AllReadyL.cons (o:={ dst:=some 42,op:=Op.call { callee:=Callee.builtin Builtin.append,args := #[Operand.tmp 39,Operand.tmp 41],argTypes := #[54,54] },type:=54,pos := "ref.go:61", after := #[{ on:=6,ground:=Ground.data },{ on:=8,ground:=Ground.data },{ on:=6,ground:=Ground.chain }],guard:=none }) rfl (fun K hK => ?_) AllReadyL.nil
    refine a2f elem_wrs (by rfl) (.tmp 39) (.tmp 41) rfl w2.heap.size _ (0+m) _ rfl (by first|exact o8.out|exact a0p o8.out (by assumption)) _ 1 _ rfl (by first|exact r7.out|exact Rd.apart r7.out ht6 (fun e=>by have e2:some b1=some b8:=e;have e3:=Option.some.inj e2;omega)|exact Rd.apart (r7.out.later (by assumption)) ht6 (fun e=>by have e2:some b1=some b8:=e;have e3:=Option.some.inj e2;omega)) (a3a _) (by omega) (h8).size ?_
    intro pq cq v9 ho9 hb9 ht9
    have h9:=(h8).trans hb9
    have o9:=ι ho9
    have h9:=ι h9
    clear ho9
    refine hK.out _ _ (Or.inr h9) (fun hHeld => ?_)
    clear hK K
    try simp only[Act.put,List.setIfInBounds_toArray,List.set_cons_zero,List.set_cons_succ]
    refine a0f (rs:=[10]) (by kernel_rfl) (by simp) ?_
    refine AllReadyL.cons (o:={ dst:=some 43,op:=Op.nilCheck (Operand.tmp 33),type:=0,pos := "ref.go:61", after := #[{ on:=0,ground:=Ground.data },{ on:=0,ground:=Ground.phase },{ on:=1,ground:=Ground.phase },{ on:=2,ground:=Ground.phase },{ on:=3,ground:=Ground.phase },{ on:=4,ground:=Ground.phase },{ on:=5,ground:=Ground.phase },{ on:=6,ground:=Ground.phase },{ on:=7,ground:=Ground.phase },{ on:=8,ground:=Ground.phase },{ on:=9,ground:=Ground.phase }],guard:=none }) rfl (fun K hK => ?_) AllReadyL.nil
    go_simp
    refine hK.out _ _ (Or.inr (by assumption)) (fun hHeld => ?_)
    clear hK K
    try simp only[Act.put,List.setIfInBounds_toArray,List.set_cons_zero,List.set_cons_succ]
    refine tl 11 rfl ?_
    refine a0f (rs:=[12]) (by kernel_rfl) (by simp) ?_
    refine AllReadyL.cons (o:={ dst:=none,op:=Op.store 54 (Operand.tmp 44) (Operand.tmp 42),type:=0,pos := "ref.go:61", after := #[{ on:=11,ground:=Ground.data },{ on:=9,ground:=Ground.data },{ on:=9,ground:=Ground.chain },{ on:=0,ground:=Ground.phase },{ on:=1,ground:=Ground.phase },{ on:=2,ground:=Ground.phase },{ on:=3,ground:=Ground.phase },{ on:=4,ground:=Ground.phase },{ on:=5,ground:=Ground.phase },{ on:=6,ground:=Ground.phase },{ on:=7,ground:=Ground.phase },{ on:=8,ground:=Ground.phase },{ on:=9,ground:=Ground.phase }],guard:=none }) rfl (fun K hK => ?_) AllReadyL.nil
    have hrow12:=a0n HROW2.out (a0h h9.out) hg2
    have c12:=a0c hrow12 1 (.slice pw m cw) rfl
    have z12:=a0d hrow12 1
    have HR12:=ι hrow12
    clear hrow12
    go_simp
    refine hK.out _ _ (Or.inl rfl) (fun hHeld => ?_)
    clear hK K c12 z12
    try simp only[Act.put,List.setIfInBounds_toArray,List.set_cons_zero,List.set_cons_succ]
    refine a1w (by kernel_rfl) ?_ _
    go_wp2_with fail
    go_meet
    case rel=>exact HFIN7 _ _ _ o9.out h9.out HR12.out
  ·refine a4p elem_wrs (by decide) (by rfl) (.tmp 40) rfl (Wr.c ⟨i,s,k,id,st.ep⟩) rfl (Wr.c_len HS.out) ?_
   intro b8 v12 hv8 hr12 hb12
   have h12:=a0a h0 hb12
   have r12:=ι hr12
   clear hr12
   refine hK.out _ _ (Or.inr h12) (fun hHeld => ?_)
   clear hK K
   try simp only[Act.put,List.setIfInBounds_toArray,List.set_cons_zero,List.set_cons_succ]
   refine a0f (rs:=[1]) (by kernel_rfl) (by simp) ?_
   refine AllReadyL.cons (o:={ dst:=some 34,op:=Op.buildSlice 54 0 #[],type:=54,pos := "ref.go:61", after := #[],guard:=none }) rfl (fun K hK => ?_) AllReadyL.nil
   refine a8y elem_wrs w2.heap.size (by rfl) rfl (h12).size ?_
   intro b1 v13 hv1 ho13 hb13
   have h13:=a0a h12 hb13
   have o13:=ι ho13
   clear ho13
   refine hK.out _ _ (Or.inr h13) (fun hHeld => ?_)
   clear hK K
   try simp only[Act.put,List.setIfInBounds_toArray,List.set_cons_zero,List.set_cons_succ]
   refine a0f (rs:=[6]) (by kernel_rfl) (by simp) ?_
   refine AllReadyL.cons (o:={ dst:=some 39,op:=Op.call { callee:=Callee.builtin Builtin.append,args := #[Operand.tmp 34,Operand.tmp 38],argTypes := #[54,54] },type:=54,pos := "ref.go:61", after := #[{ on:=1,ground:=Ground.data },{ on:=5,ground:=Ground.data }],guard:=none }) rfl (fun K hK => ?_) AllReadyL.nil
   refine a2f elem_wrs (by rfl) (.tmp 34) (.tmp 38) rfl w2.heap.size (.slice (some ⟨b1,0,none⟩) 0 0) 0 [] rfl (by first|exact o13.out|exact a0p o13.out (by assumption)) _ m _ rfl (HWT2.out.later (a0h h13)) HWO.out (by omega) (h13).size ?_
   intro p6 c6 v14 ho14 hb14 ht6
   have h14:=(h13).trans hb14
   have o14:=ι ho14
   clear ho14
   refine hK.out _ _ (Or.inr h14) (fun hHeld => ?_)
   clear hK K
   try simp only[Act.put,List.setIfInBounds_toArray,List.set_cons_zero,List.set_cons_succ]
   refine a0f (rs:=[9]) (by kernel_rfl) (by simp) ?_
   refine AllReadyL.cons (o:={ dst:=some 42,op:=Op.call { callee:=Callee.builtin Builtin.append,args := #[Operand.tmp 39,Operand.tmp 41],argTypes := #[54,54] },type:=54,pos := "ref.go:61", after := #[{ on:=6,ground:=Ground.data },{ on:=8,ground:=Ground.data },{ on:=6,ground:=Ground.chain }],guard:=none }) rfl (fun K hK => ?_) AllReadyL.nil
   refine a2f elem_wrs (by rfl) (.tmp 39) (.tmp 41) rfl w2.heap.size _ (0+m) _ rfl (by first|exact o14.out|exact a0p o14.out (by assumption)) _ 1 _ rfl (by first|exact r12.out|exact Rd.apart r12.out ht6 (fun e=>by have e2:some b1=some b8:=e;have e3:=Option.some.inj e2;omega)|exact Rd.apart (r12.out.later (by assumption)) ht6 (fun e=>by have e2:some b1=some b8:=e;have e3:=Option.some.inj e2;omega)) (a3a _) (by omega) (h14).size ?_
   intro pq cq v9 ho15 hb15 ht9
   have h15:=(h14).trans hb15
   have o9:=ι ho15
   have h9:=ι h15
   clear ho15
   refine hK.out _ _ (Or.inr h15) (fun hHeld => ?_)
   clear hK K
   try simp only[Act.put,List.setIfInBounds_toArray,List.set_cons_zero,List.set_cons_succ]
   refine a0f (rs:=[10]) (by kernel_rfl) (by simp) ?_
   refine AllReadyL.cons (o:={ dst:=some 43,op:=Op.nilCheck (Operand.tmp 33),type:=0,pos := "ref.go:61", after := #[{ on:=0,ground:=Ground.data },{ on:=0,ground:=Ground.phase },{ on:=1,ground:=Ground.phase },{ on:=2,ground:=Ground.phase },{ on:=3,ground:=Ground.phase },{ on:=4,ground:=Ground.phase },{ on:=5,ground:=Ground.phase },{ on:=6,ground:=Ground.phase },{ on:=7,ground:=Ground.phase },{ on:=8,ground:=Ground.phase },{ on:=9,ground:=Ground.phase }],guard:=none }) rfl (fun K hK => ?_) AllReadyL.nil
   go_simp
   refine hK.out _ _ (Or.inr (by assumption)) (fun hHeld => ?_)
   clear hK K
   try simp only[Act.put,List.setIfInBounds_toArray,List.set_cons_zero,List.set_cons_succ]
   refine tl 11 rfl ?_
   refine a0f (rs:=[12]) (by kernel_rfl) (by simp) ?_
   refine AllReadyL.cons (o:={ dst:=none,op:=Op.store 54 (Operand.tmp 44) (Operand.tmp 42),type:=0,pos := "ref.go:61", after := #[{ on:=11,ground:=Ground.data },{ on:=9,ground:=Ground.data },{ on:=9,ground:=Ground.chain },{ on:=0,ground:=Ground.phase },{ on:=1,ground:=Ground.phase },{ on:=2,ground:=Ground.phase },{ on:=3,ground:=Ground.phase },{ on:=4,ground:=Ground.phase },{ on:=5,ground:=Ground.phase },{ on:=6,ground:=Ground.phase },{ on:=7,ground:=Ground.phase },{ on:=8,ground:=Ground.phase },{ on:=9,ground:=Ground.phase }],guard:=none }) rfl (fun K hK => ?_) AllReadyL.nil
   have hrow12:=a0n HROW2.out (a0h h9.out) hg2
   have c12:=a0c hrow12 1 (.slice pw m cw) rfl
   have z12:=a0d hrow12 1
   have HR12:=ι hrow12
   clear hrow12
   go_simp
   refine hK.out _ _ (Or.inl rfl) (fun hHeld => ?_)
   clear hK K c12 z12
   try simp only[Act.put,List.setIfInBounds_toArray,List.set_cons_zero,List.set_cons_succ]
   refine a1w (by kernel_rfl) ?_ _
   go_wp2_with fail
   go_meet
   case rel=>exact HFIN7 _ _ _ o9.out h9.out HR12.out
 case rest =>
  obtain⟨pq,cq,hrq,hoq,htq⟩:=hcut
  clear HFIN7 HWO HWT2 C1 HROW2
  have hT1:Touch (· = g) W wc:=(HT.out.trans (Touch.of_below hb2')).trans htq
  have hgc:g<wc.heap.size:=(Array.getElem?_eq_some_iff.1 hrq).1
  have HRC:=ι hrq
  have HXC:Hid (AtW wc gx (⟨i,s,k,id,st.ep⟩:Wr)):=ι (a2j HX2.out htq hgxg)
  have hgxc:gx<wc.heap.size:=(Array.getElem?_eq_some_iff.1 HXC.out).1
  have C3:Hid (wc.cell? ⟨g,3,none⟩=some (.slice pl l cl)):=ι (a0c hrq 3 _ rfl)
  have HEC:=ι (a3l HE.out (S':=fun b=>S b∧b≠g) (Keeps.trans (Keeps.of_below HBW.out) (hT1.keeps fun b hb=>hb.2)) fun b hb=>hb)
  have HLT2:=ι HEC.out.cells
  have HLO:=ι (b6g HE.out)
  have HEO:=ι (a5j (1,(⟨i,s,k,id,st.ep⟩:Wr),[]) (.slice none 0 0) rfl)
  obtain⟨cl',hcl'⟩:∃c,((st.log.zip es).map fun x=>evC x.1 x.2).flatten=c:=⟨_,rfl⟩
  rw[hcl'] at HLT2 HLO
  have HCL:=ι hcl'
  have HOQ:=ι hoq
  have HT1:=ι hT1
  have HTQ:=ι htq
  clear hrq hcl' hoq hT1 htq
  have HFIN8:∀(pq2:Option Addr) (cq2:Nat) (v10:World),Own v10 wc.heap.size 143 38 (.slice pq2 (0+l+1) cq2) (0+l+1) ([]++cl'++evC (1,(⟨i,s,k,id,st.ep⟩:Wr),[]) (.slice none 0 0))→Below wc.drew.heap.size wc.drew v10 →
    v10.heap[g]? = some (.cells #[.slice ps n cs,.slice pq (m+1) cq,.int .i64 st.ep,.slice pl l cl,vb,.int .i64 (st.asked+1)] 56 (0,0))→RefDone S g w (0,{ st with asked:=st.asked+1,wait:=st.wait++[⟨i,s,k,id,st.ep⟩],log:=st.log++[(1,⟨i,s,k,id,st.ep⟩,[])] }) (.returned (.int .i64 0)) (v10.setCell ⟨g,3,none⟩ (.slice pq2 (l+1) cq2)):=fun pq2 cq2 v10 ho hb hr=>by
   rw[Nat.zero_add,List.nil_append,← HCL.out] at ho
   have hb':=a0h hb
   have hTW:Touch (· = g) W (v10.setCell ⟨g,3,none⟩ (.slice pq2 (l+1) cq2)):=Touch.setCell (S:=(· = g)) (HT1.out.trans (Touch.of_below hb')) ⟨g,3,none⟩ rfl _
   have hT:Touch (· = g) w (v10.setCell ⟨g,3,none⟩ (.slice pq2 (l+1) cq2)):=(Touch.of_below HBW.out).trans hTW
   have hsz:=a1p v10 ⟨g,3,none⟩ (.slice pq2 (l+1) cq2)
   have hgr:∀b,grow S W (v10.setCell ⟨g,3,none⟩ (.slice pq2 (l+1) cq2)) b∧b≠g→grow S w (v10.setCell ⟨g,3,none⟩ (.slice pq2 (l+1) cq2)) b∧b≠g:=fun b hb=>⟨by
    rcases hb.1 with h|h
    ·exact Or.inl h
    ·exact Or.inr ⟨by have:=HBW.out.size;omega,h.2⟩,hb.2⟩
   have hwW:=HBW.out.size
   have hWc:=HT1.out.size
   have hcv:=hb'.size
   have hw2:=HTQ.out.size
   have hw12:=hb2'.size
   have hWw1:=HT.out.size
   have hio:=a3i ho
   have hiq:=a3i HOQ.out
   have hn1:=HN.out
   have hm1:=HM.out
   have hl1:=HL.out
   refine⟨rfl,⟨_,_,_,_,a0e hr _,Or.inl HA.out.own,(HA.out.keepSafe hTW).1,(HA.out.keepSafe hTW).2.mono hgr,?_,?_,⟨es++[.slice none 0 0],?_⟩,(HA.out.keepBad hTW).1,(HA.out.keepBad hTW).2.mono hgr⟩,hT⟩
   ·show Rd _ 36 _ (st.wait++[(⟨i,s,k,id,st.ep⟩:Wr)]).length (wrsC (st.wait++[(⟨i,s,k,id,st.ep⟩:Wr)]))
    have e1:(st.wait++[(⟨i,s,k,id,st.ep⟩:Wr)]).length=m+1:=by simp[hm1]
    have e2:wrsC (st.wait++[(⟨i,s,k,id,st.ep⟩:Wr)])=wrsC st.wait++Wr.c (⟨i,s,k,id,st.ep⟩:Wr):=by simp[wrsC]
    rw[e1,e2]
    exact Rd.set (HOQ.out.rd.later hb') (hiq.mono fun b hb=>by have:=hb.1;omega)
   ·exact hiq.mono fun b hb=>⟨Or.inr ⟨by have:=hb.1;omega,by rw[hsz];have:=hb.2;omega⟩,by have:=hb.1;omega⟩
   ·show EvsIn _ _ _ (st.log++[(1,(⟨i,s,k,id,st.ep⟩:Wr),[])]) (st.log++[(1,(⟨i,s,k,id,st.ep⟩:Wr),[])]).length _
    have e1:(st.log++[(1,(⟨i,s,k,id,st.ep⟩:Wr),[])]).length=l+1:=by simp[hl1]
    rw[e1]
    exact b6f HE.out hl1.symm (hT.keeps fun b hb=>hb.2) (fun b hb=>⟨Or.inl hb.1,hb.2⟩) (Rd.set ho.rd (hio.mono fun b hb=>by have:=hb.1;omega)) (hio.mono fun b hb=>⟨Or.inr ⟨by have:=hb.1;omega,by rw[hsz];exact hb.2⟩,by have:=hb.1;omega⟩) ⟨none,0,rfl,a2n _ 2,a8d _⟩
  go_wp2_with fail
  have h0:=Below.refl wc.drew.heap.size wc.drew
  refine a2k (S:=ext wc.drew) 13 (by kernel_rfl) (Below.refl _ _) (fun hH0 => ?_)
  refine tl 0 rfl ?_
  refine tl 2 rfl ?_
  refine tl 3 rfl ?_
  refine tl 4 rfl ?_
  refine tlv 5 rfl (a0k (by rfl) 52 _ c2j rfl _ rfl g 3 rfl (.slice pl l cl) (fun w' hw=>((a0h hw).cell (p:=⟨g,3,none⟩) hgc).trans C3.out)) ?_
  refine tlv 7 rfl (b3b (by rfl) _ rfl gx 0 rfl (⟨i,s,k,id,st.ep⟩:Wr) HS.out (fun w' hw=>AtW.range (a0n HXC.out (a0h hw) hgxc))) ?_
  refine tlv 8 rfl (a3d (by rfl) 143 _ rfl [(0,.int .i64 1),(1,.agg (Wr.c ⟨i,s,k,id,st.ep⟩).toArray)] rfl _ (b8f ⟨i,s,k,id,st.ep⟩ HS.out)) ?_
  refine a0f (rs:=[1,9]) (by kernel_rfl) (by simp) ?_
  refine AllReadyL.cons (o:={ dst:=some 46,op:=Op.buildSlice 52 0 #[],type:=52,pos := "ref.go:62", after := #[],guard:=none }) rfl (fun K hK => ?_) (AllReadyL.cons (o:={ dst:=some 54,op:=Op.buildSlice 52 1 #[(0,Operand.tmp 53)],type:=52,pos := "ref.go:62", after := #[{ on:=8,ground:=Ground.data }],guard:=none }) rfl (fun K hK => ?_) AllReadyL.nil)
  ·refine a8y a1f wc.heap.size (by rfl) rfl (h0).size ?_
   intro b1 v1 hv1 ho1 hb1
   have h1:=a0a h0 hb1
   have o1:=ι ho1
   clear ho1
   refine hK.out _ _ (Or.inr h1) (fun hHeld => ?_)
   clear hK K
   try simp only[Act.put,List.setIfInBounds_toArray,List.set_cons_zero,List.set_cons_succ]
   refine a0f (rs:=[6,9]) (by kernel_rfl) (by simp) ?_
   refine AllReadyL.cons (o:={ dst:=some 51,op:=Op.call { callee:=Callee.builtin Builtin.append,args := #[Operand.tmp 46,Operand.tmp 50],argTypes := #[52,52] },type:=52,pos := "ref.go:62", after := #[{ on:=1,ground:=Ground.data },{ on:=5,ground:=Ground.data }],guard:=none }) rfl (fun K hK => ?_) (AllReadyL.cons (o:={ dst:=some 54,op:=Op.buildSlice 52 1 #[(0,Operand.tmp 53)],type:=52,pos := "ref.go:62", after := #[{ on:=8,ground:=Ground.data }],guard:=none }) rfl (fun K hK => ?_) AllReadyL.nil)
   ·refine a2f a1f (by rfl) (.tmp 46) (.tmp 50) rfl wc.heap.size (.slice (some ⟨b1,0,none⟩) 0 0) 0 [] rfl (by first|exact o1.out|exact a0p o1.out (by assumption)) _ l _ rfl (HLT2.out.later (a0h h1)) HLO.out (by omega) (h1).size ?_
    intro p6 c6 v2 ho2 hb2 ht6
    have h2:=(h1).trans hb2
    have o2:=ι ho2
    clear ho2
    refine hK.out _ _ (Or.inr h2) (fun hHeld => ?_)
    clear hK K
    try simp only[Act.put,List.setIfInBounds_toArray,List.set_cons_zero,List.set_cons_succ]
    refine a0f (rs:=[9]) (by kernel_rfl) (by simp) ?_
    refine AllReadyL.cons (o:={ dst:=some 54,op:=Op.buildSlice 52 1 #[(0,Operand.tmp 53)],type:=52,pos := "ref.go:62", after := #[{ on:=8,ground:=Ground.data }],guard:=none }) rfl (fun K hK => ?_) AllReadyL.nil
    refine a4p a1f (by decide) (by rfl) (.tmp 53) rfl (evC (1,(⟨i,s,k,id,st.ep⟩:Wr),[]) (.slice none 0 0)) rfl (a4k HS.out) ?_
    intro b9 v3 hv9 hr3 hb3
    have h3:=a0a h2 hb3
    have r3:=ι hr3
    clear hr3
    refine hK.out _ _ (Or.inr h3) (fun hHeld => ?_)
    clear hK K
    try simp only[Act.put,List.setIfInBounds_toArray,List.set_cons_zero,List.set_cons_succ]
    refine a0f (rs:=[10]) (by kernel_rfl) (by simp) ?_
    refine AllReadyL.cons (o:={ dst:=some 55,op:=Op.call { callee:=Callee.builtin Builtin.append,args := #[Operand.tmp 51,Operand.tmp 54],argTypes := #[52,52] },type:=52,pos := "ref.go:62", after := #[{ on:=6,ground:=Ground.data },{ on:=9,ground:=Ground.data },{ on:=6,ground:=Ground.chain }],guard:=none }) rfl (fun K hK => ?_) AllReadyL.nil
    refine a2f a1f (by rfl) (.tmp 51) (.tmp 54) rfl wc.heap.size _ (0+l) _ rfl (by first|exact o2.out|exact a0p o2.out (by assumption)) _ 1 _ rfl (by first|exact r3.out|exact Rd.apart r3.out ht6 (fun e=>by have e2:some b1=some b9:=e;have e3:=Option.some.inj e2;omega)|exact Rd.apart (r3.out.later (by assumption)) ht6 (fun e=>by have e2:some b1=some b9:=e;have e3:=Option.some.inj e2;omega)) HEO.out (by omega) (h3).size ?_
    intro pq2 cq2 v10 ho4 hb4 ht10
    have h4:=(h3).trans hb4
    have o10:=ι ho4
    have h10:=ι h4
    clear ho4
    refine hK.out _ _ (Or.inr h4) (fun hHeld => ?_)
    clear hK K
    try simp only[Act.put,List.setIfInBounds_toArray,List.set_cons_zero,List.set_cons_succ]
    refine a0f (rs:=[11]) (by kernel_rfl) (by simp) ?_
    refine AllReadyL.cons (o:={ dst:=some 56,op:=Op.nilCheck (Operand.tmp 45),type:=0,pos := "ref.go:62", after := #[{ on:=0,ground:=Ground.data },{ on:=0,ground:=Ground.phase },{ on:=1,ground:=Ground.phase },{ on:=2,ground:=Ground.phase },{ on:=3,ground:=Ground.phase },{ on:=4,ground:=Ground.phase },{ on:=5,ground:=Ground.phase },{ on:=6,ground:=Ground.phase },{ on:=7,ground:=Ground.phase },{ on:=8,ground:=Ground.phase },{ on:=9,ground:=Ground.phase },{ on:=10,ground:=Ground.phase }],guard:=none }) rfl (fun K hK => ?_) AllReadyL.nil
    go_simp
    refine hK.out _ _ (Or.inr (by assumption)) (fun hHeld => ?_)
    clear hK K
    try simp only[Act.put,List.setIfInBounds_toArray,List.set_cons_zero,List.set_cons_succ]
    refine tl 12 rfl ?_
    refine a0f (rs:=[13]) (by kernel_rfl) (by simp) ?_
    refine AllReadyL.cons (o:={ dst:=none,op:=Op.store 52 (Operand.tmp 57) (Operand.tmp 55),type:=0,pos := "ref.go:62", after := #[{ on:=12,ground:=Ground.data },{ on:=10,ground:=Ground.data },{ on:=10,ground:=Ground.chain },{ on:=0,ground:=Ground.phase },{ on:=1,ground:=Ground.phase },{ on:=2,ground:=Ground.phase },{ on:=3,ground:=Ground.phase },{ on:=4,ground:=Ground.phase },{ on:=5,ground:=Ground.phase },{ on:=6,ground:=Ground.phase },{ on:=7,ground:=Ground.phase },{ on:=8,ground:=Ground.phase },{ on:=9,ground:=Ground.phase },{ on:=10,ground:=Ground.phase }],guard:=none }) rfl (fun K hK => ?_) AllReadyL.nil
    have hrow13:=a0n HRC.out (a0h h10.out) hgc
    have c13:=a0c hrow13 3 (.slice pl l cl) rfl
    have z13:=a0d hrow13 3
    have HR13:=ι hrow13
    clear hrow13
    go_simp
    refine hK.out _ _ (Or.inl rfl) (fun hHeld => ?_)
    clear hK K c13 z13
    try simp only[Act.put,List.setIfInBounds_toArray,List.set_cons_zero,List.set_cons_succ]
    refine a1w (by kernel_rfl) ?_ _
    go_wp2_with fail
    have hfin:=HFIN8 _ _ _ o10.out h10.out HR13.out
    go_ret
    exact hfin
   ·refine a4p a1f (by decide) (by rfl) (.tmp 53) rfl (evC (1,(⟨i,s,k,id,st.ep⟩:Wr),[]) (.slice none 0 0)) rfl (a4k HS.out) ?_
    intro b9 v7 hv9 hr7 hb7
    have h7:=a0a h1 hb7
    have r7:=ι hr7
    clear hr7
    refine hK.out _ _ (Or.inr h7) (fun hHeld => ?_)
    clear hK K
    try simp only[Act.put,List.setIfInBounds_toArray,List.set_cons_zero,List.set_cons_succ]
    refine a0f (rs:=[6]) (by kernel_rfl) (by simp) ?_
    refine AllReadyL.cons (o:={ dst:=some 51,op:=Op.call { callee:=Callee.builtin Builtin.append,args := #[Operand.tmp 46,Operand.tmp 50],argTypes := #[52,52] },type:=52,pos := "ref.go:62", after := #[{ on:=1,ground:=Ground.data },{ on:=5,ground:=Ground.data }],guard:=none }) rfl (fun K hK => ?_) AllReadyL.nil
    refine a2f a1f (by rfl) (.tmp 46) (.tmp 50) rfl wc.heap.size (.slice (some ⟨b1,0,none⟩) 0 0) 0 [] rfl (by first|exact o1.out|exact a0p o1.out (by assumption)) _ l _ rfl (HLT2.out.later (a0h h7)) HLO.out (by omega) (h7).size ?_
    intro p6 c6 v8 ho8 hb8 ht6
    have h8:=(h7).trans hb8
    have o8:=ι ho8
    clear ho8
    refine hK.out _ _ (Or.inr h8) (fun hHeld => ?_)
    clear hK K
    try simp only[Act.put,List.setIfInBounds_toArray,List.set_cons_zero,List.set_cons_succ]
    refine a0f (rs:=[10]) (by kernel_rfl) (by simp) ?_
    refine AllReadyL.cons (o:={ dst:=some 55,op:=Op.call { callee:=Callee.builtin Builtin.append,args := #[Operand.tmp 51,Operand.tmp 54],argTypes := #[52,52] },type:=52,pos := "ref.go:62", after := #[{ on:=6,ground:=Ground.data },{ on:=9,ground:=Ground.data },{ on:=6,ground:=Ground.chain }],guard:=none }) rfl (fun K hK => ?_) AllReadyL.nil
    refine a2f a1f (by rfl) (.tmp 51) (.tmp 54) rfl wc.heap.size _ (0+l) _ rfl (by first|exact o8.out|exact a0p o8.out (by assumption)) _ 1 _ rfl (by first|exact r7.out|exact Rd.apart r7.out ht6 (fun e=>by have e2:some b1=some b9:=e;have e3:=Option.some.inj e2;omega)|exact Rd.apart (r7.out.later (by assumption)) ht6 (fun e=>by have e2:some b1=some b9:=e;have e3:=Option.some.inj e2;omega)) HEO.out (by omega) (h8).size ?_
    intro pq2 cq2 v10 ho9 hb9 ht10
    have h9:=(h8).trans hb9
    have o10:=ι ho9
    have h10:=ι h9
    clear ho9
    refine hK.out _ _ (Or.inr h9) (fun hHeld => ?_)
    clear hK K
    try simp only[Act.put,List.setIfInBounds_toArray,List.set_cons_zero,List.set_cons_succ]
    refine a0f (rs:=[11]) (by kernel_rfl) (by simp) ?_
    refine AllReadyL.cons (o:={ dst:=some 56,op:=Op.nilCheck (Operand.tmp 45),type:=0,pos := "ref.go:62", after := #[{ on:=0,ground:=Ground.data },{ on:=0,ground:=Ground.phase },{ on:=1,ground:=Ground.phase },{ on:=2,ground:=Ground.phase },{ on:=3,ground:=Ground.phase },{ on:=4,ground:=Ground.phase },{ on:=5,ground:=Ground.phase },{ on:=6,ground:=Ground.phase },{ on:=7,ground:=Ground.phase },{ on:=8,ground:=Ground.phase },{ on:=9,ground:=Ground.phase },{ on:=10,ground:=Ground.phase }],guard:=none }) rfl (fun K hK => ?_) AllReadyL.nil
    go_simp
    refine hK.out _ _ (Or.inr (by assumption)) (fun hHeld => ?_)
    clear hK K
    try simp only[Act.put,List.setIfInBounds_toArray,List.set_cons_zero,List.set_cons_succ]
    refine tl 12 rfl ?_
    refine a0f (rs:=[13]) (by kernel_rfl) (by simp) ?_
    refine AllReadyL.cons (o:={ dst:=none,op:=Op.store 52 (Operand.tmp 57) (Operand.tmp 55),type:=0,pos := "ref.go:62", after := #[{ on:=12,ground:=Ground.data },{ on:=10,ground:=Ground.data },{ on:=10,ground:=Ground.chain },{ on:=0,ground:=Ground.phase },{ on:=1,ground:=Ground.phase },{ on:=2,ground:=Ground.phase },{ on:=3,ground:=Ground.phase },{ on:=4,ground:=Ground.phase },{ on:=5,ground:=Ground.phase },{ on:=6,ground:=Ground.phase },{ on:=7,ground:=Ground.phase },{ on:=8,ground:=Ground.phase },{ on:=9,ground:=Ground.phase },{ on:=10,ground:=Ground.phase }],guard:=none }) rfl (fun K hK => ?_) AllReadyL.nil
    have hrow13:=a0n HRC.out (a0h h10.out) hgc
    have c13:=a0c hrow13 3 (.slice pl l cl) rfl
    have z13:=a0d hrow13 3
    have HR13:=ι hrow13
    clear hrow13
    go_simp
    refine hK.out _ _ (Or.inl rfl) (fun hHeld => ?_)
    clear hK K c13 z13
    try simp only[Act.put,List.setIfInBounds_toArray,List.set_cons_zero,List.set_cons_succ]
    refine a1w (by kernel_rfl) ?_ _
    go_wp2_with fail
    have hfin:=HFIN8 _ _ _ o10.out h10.out HR13.out
    go_ret
    exact hfin
  ·refine a4p a1f (by decide) (by rfl) (.tmp 53) rfl (evC (1,(⟨i,s,k,id,st.ep⟩:Wr),[]) (.slice none 0 0)) rfl (a4k HS.out) ?_
   intro b9 v12 hv9 hr12 hb12
   have h12:=a0a h0 hb12
   have r12:=ι hr12
   clear hr12
   refine hK.out _ _ (Or.inr h12) (fun hHeld => ?_)
   clear hK K
   try simp only[Act.put,List.setIfInBounds_toArray,List.set_cons_zero,List.set_cons_succ]
   refine a0f (rs:=[1]) (by kernel_rfl) (by simp) ?_
   refine AllReadyL.cons (o:={ dst:=some 46,op:=Op.buildSlice 52 0 #[],type:=52,pos := "ref.go:62", after := #[],guard:=none }) rfl (fun K hK => ?_) AllReadyL.nil
   refine a8y a1f wc.heap.size (by rfl) rfl (h12).size ?_
   intro b1 v13 hv1 ho13 hb13
   have h13:=a0a h12 hb13
   have o13:=ι ho13
   clear ho13
   refine hK.out _ _ (Or.inr h13) (fun hHeld => ?_)
   clear hK K
   try simp only[Act.put,List.setIfInBounds_toArray,List.set_cons_zero,List.set_cons_succ]
   refine a0f (rs:=[6]) (by kernel_rfl) (by simp) ?_
   refine AllReadyL.cons (o:={ dst:=some 51,op:=Op.call { callee:=Callee.builtin Builtin.append,args := #[Operand.tmp 46,Operand.tmp 50],argTypes := #[52,52] },type:=52,pos := "ref.go:62", after := #[{ on:=1,ground:=Ground.data },{ on:=5,ground:=Ground.data }],guard:=none }) rfl (fun K hK => ?_) AllReadyL.nil
   refine a2f a1f (by rfl) (.tmp 46) (.tmp 50) rfl wc.heap.size (.slice (some ⟨b1,0,none⟩) 0 0) 0 [] rfl (by first|exact o13.out|exact a0p o13.out (by assumption)) _ l _ rfl (HLT2.out.later (a0h h13)) HLO.out (by omega) (h13).size ?_
   intro p6 c6 v14 ho14 hb14 ht6
   have h14:=(h13).trans hb14
   have o14:=ι ho14
   clear ho14
   refine hK.out _ _ (Or.inr h14) (fun hHeld => ?_)
   clear hK K
   try simp only[Act.put,List.setIfInBounds_toArray,List.set_cons_zero,List.set_cons_succ]
   refine a0f (rs:=[10]) (by kernel_rfl) (by simp) ?_
   refine AllReadyL.cons (o:={ dst:=some 55,op:=Op.call { callee:=Callee.builtin Builtin.append,args := #[Operand.tmp 51,Operand.tmp 54],argTypes := #[52,52] },type:=52,pos := "ref.go:62", after := #[{ on:=6,ground:=Ground.data },{ on:=9,ground:=Ground.data },{ on:=6,ground:=Ground.chain }],guard:=none }) rfl (fun K hK => ?_) AllReadyL.nil
   refine a2f a1f (by rfl) (.tmp 51) (.tmp 54) rfl wc.heap.size _ (0+l) _ rfl (by first|exact o14.out|exact a0p o14.out (by assumption)) _ 1 _ rfl (by first|exact r12.out|exact Rd.apart r12.out ht6 (fun e=>by have e2:some b1=some b9:=e;have e3:=Option.some.inj e2;omega)|exact Rd.apart (r12.out.later (by assumption)) ht6 (fun e=>by have e2:some b1=some b9:=e;have e3:=Option.some.inj e2;omega)) HEO.out (by omega) (h14).size ?_
   intro pq2 cq2 v10 ho15 hb15 ht10
   have h15:=(h14).trans hb15
   have o10:=ι ho15
   have h10:=ι h15
   clear ho15
   refine hK.out _ _ (Or.inr h15) (fun hHeld => ?_)
   clear hK K
   try simp only[Act.put,List.setIfInBounds_toArray,List.set_cons_zero,List.set_cons_succ]
   refine a0f (rs:=[11]) (by kernel_rfl) (by simp) ?_
   refine AllReadyL.cons (o:={ dst:=some 56,op:=Op.nilCheck (Operand.tmp 45),type:=0,pos := "ref.go:62", after := #[{ on:=0,ground:=Ground.data },{ on:=0,ground:=Ground.phase },{ on:=1,ground:=Ground.phase },{ on:=2,ground:=Ground.phase },{ on:=3,ground:=Ground.phase },{ on:=4,ground:=Ground.phase },{ on:=5,ground:=Ground.phase },{ on:=6,ground:=Ground.phase },{ on:=7,ground:=Ground.phase },{ on:=8,ground:=Ground.phase },{ on:=9,ground:=Ground.phase },{ on:=10,ground:=Ground.phase }],guard:=none }) rfl (fun K hK => ?_) AllReadyL.nil
   go_simp
   refine hK.out _ _ (Or.inr (by assumption)) (fun hHeld => ?_)
   clear hK K
   try simp only[Act.put,List.setIfInBounds_toArray,List.set_cons_zero,List.set_cons_succ]
   refine tl 12 rfl ?_
   refine a0f (rs:=[13]) (by kernel_rfl) (by simp) ?_
   refine AllReadyL.cons (o:={ dst:=none,op:=Op.store 52 (Operand.tmp 57) (Operand.tmp 55),type:=0,pos := "ref.go:62", after := #[{ on:=12,ground:=Ground.data },{ on:=10,ground:=Ground.data },{ on:=10,ground:=Ground.chain },{ on:=0,ground:=Ground.phase },{ on:=1,ground:=Ground.phase },{ on:=2,ground:=Ground.phase },{ on:=3,ground:=Ground.phase },{ on:=4,ground:=Ground.phase },{ on:=5,ground:=Ground.phase },{ on:=6,ground:=Ground.phase },{ on:=7,ground:=Ground.phase },{ on:=8,ground:=Ground.phase },{ on:=9,ground:=Ground.phase },{ on:=10,ground:=Ground.phase }],guard:=none }) rfl (fun K hK => ?_) AllReadyL.nil
   have hrow13:=a0n HRC.out (a0h h10.out) hgc
   have c13:=a0c hrow13 3 (.slice pl l cl) rfl
   have z13:=a0d hrow13 3
   have HR13:=ι hrow13
   clear hrow13
   go_simp
   refine hK.out _ _ (Or.inl rfl) (fun hHeld => ?_)
   clear hK K c13 z13
   try simp only[Act.put,List.setIfInBounds_toArray,List.set_cons_zero,List.set_cons_succ]
   refine a1w (by kernel_rfl) ?_ _
   go_wp2_with fail
   have hfin:=HFIN8 _ _ _ o10.out h10.out HR13.out
   go_ret
   exact hfin
theorem rwrite(S:Nat→Prop)(g:Nat)(st:St)(w:World)(h:RefIs w S g st)(hf:st.few)(hsl:st.safe.length≤1000)(i:Int)(s:List Int)(k id:Int)(hs:Sec s)(hi:(Lit.int .i64 i).wf=true) :
  Calls Tryz.prog 133 #[.pointer (some ⟨g,0,none⟩),.int .i64 i,agg s,.agg #[.int .i64 k,.int .i64 id]] w (RefDone S g w (writeR st i s k id)):=by
 by_cases hin:0≤i∧i<(st.safe.length:Int)
 ·by_cases ha:asks st=true
  ·have e:writeR st i s k id=(3,st.asked1):=by rw[writeR,if_pos hin,if_pos ha]
   have:=b8n S g st w h hf hsl i s k id hi (Or.inr ha)
   rw[if_pos hin] at this
   rw[e];exact this
  ·have e:writeR st i s k id=(0,{ st with asked:=st.asked+1,wait:=st.wait++[⟨i,s,k,id,st.ep⟩],log:=st.log++[(1,⟨i,s,k,id,st.ep⟩,[])] }):=by rw[writeR,if_pos hin,if_neg ha]
   rw[e]
   exact c4f S g st w h hf hsl i s k id hs hin (by simpa using ha)
 ·have e:writeR st i s k id=(1,st.asked1):=by rw[writeR,if_neg hin]
  have:=b8n S g st w h hf hsl i s k id hi (Or.inl hin)
  rw[if_neg hin] at this
  rw[e];exact this
end dsk
namespace dsk
set_option maxRecDepth 100000
open Go.ChangeShapes Go.WideShapes Go.ChangeAt Go.RowKit
open rows
open sec
def hasT(ts:List (Int×Int))(x:Wr):Bool:=decide ((x.kind,x.id)∈ts)
def topStep(ts:List (Int×Int))(p:Int×Bool)(x:Wr):Int×Bool:=if (hasT ts x && (!p.2 || decide (p.1<x.ep)))=true then (x.ep,true) else p
def topOf(ts:List (Int×Int))(ws:List Wr):Int×Bool:=ws.foldl (topStep ts) (0,false)
def madeB(ts:List (Int×Int))(p:Int×Bool)(x:Wr):Bool:=hasT ts x || (p.2 && decide (x.ep<p.1))
def outStep(made:Wr→Bool)(o:List (List Int))(x:Wr):List (List Int):=if made x=true then o.set x.pos.toNat x.s else o
def outOf(made:Wr→Bool)(ws:List Wr)(safe:List (List Int)):List (List Int):=ws.foldl (outStep made) safe
def staysB(made:Wr→Bool)(ws:List Wr)(i:Nat)(x:Wr):Bool := !made x && !((ws.drop (i+1)).any fun y=>made y && y.pos == x.pos)
def leftUpto(made:Wr→Bool)(ws:List Wr):Nat→List Wr
 | 0=>[]
 | j+1=>leftUpto made ws j++(match ws[j]? with|some x=>if staysB made ws j x=true then [x] else []|none=>[])
def settle(safe:List (List Int))(ws:List Wr)(ts:List (Int×Int)):List (List Int)×List Wr :=
 (outOf (madeB ts (topOf ts ws)) ws safe,leftUpto (madeB ts (topOf ts ws)) ws ws.length)
theorem c6j(ts:List (Int×Int))(ws:List Wr)(j:Nat)(h:j<ws.length):topOf ts (ws.take (j+1))=topStep ts (topOf ts (ws.take j)) ws[j]:=by
 rw[List.take_succ_eq_append_getElem h,topOf,List.foldl_append];rfl
theorem b3k(made:Wr→Bool)(ws:List Wr)(safe:List (List Int))(j:Nat)(h:j<ws.length):outOf made (ws.take (j+1)) safe=outStep made (outOf made (ws.take j) safe) ws[j]:=by
 rw[List.take_succ_eq_append_getElem h,outOf,List.foldl_append];rfl
theorem a4e(made:Wr→Bool):∀(ws:List Wr) (safe:List (List Int)),(outOf made ws safe).length=safe.length
 | [],safe=>rfl
 | x::t,safe=>by
  rw[outOf,List.foldl_cons]
  have:=a4e made t (outStep made safe x)
  rw[outOf] at this
  rw[this,outStep]
  split<;>simp
theorem a5r(made:Wr→Bool):∀(ws:List Wr) (safe:List (List Int)),Secs safe→(∀x∈ws,Sec x.s)→Secs (outOf made ws safe)
 | [],safe,h,_=>h
 | x::t,safe,h,hw=>by
  rw[outOf,List.foldl_cons]
  refine a5r made t _ ?_ fun y hy=>hw y (List.mem_cons_of_mem _ hy)
  rw[outStep]
  split
  ·exact a4q h (hw x (List.mem_cons_self ..)) _
  ·exact h
theorem a1y{w:World}{b o:Nat}{x:Wr}(hs:Sec x.s)(h:w.rangeAt b o x.c):w.cell? ⟨b,o,none⟩=some (.int .i64 x.pos)∧w.rangeAt b (o+1) (u8s x.s)∧w.cell? ⟨b,o+33,none⟩=some (.int .i64 x.kind)∧w.cell? ⟨b,o+34,none⟩=some (.int .i64 x.id)∧w.cell? ⟨b,o+35,none⟩=some (.int .i64 x.ep):=by
 have hl:(u8s x.s).length=32:=by simp[u8s,hs.1]
 obtain⟨h0,h1⟩:=d2s h
 refine⟨h0,h1,h 33 _ ?_,h 34 _ ?_,h 35 _ ?_⟩ <;>
 ·rw[Wr.c,List.getElem?_cons_succ,List.getElem?_append_right (by omega),hl];rfl
theorem c9f{w:World}{B g n c:Nat}{ss:List (List Int)}(h:Own w B 95 32 (.slice (some ⟨g,0,none⟩) n c) n (cellsOf ss))(hs:Secs ss){i:Nat}(hi:i<ss.length){s:List Int}(hl:Sec s) :
  ∃w',(storeVar 95 ⟨g,i * 32,none⟩ (.agg (u8s s).toArray)).run Tryz.prog w = .ok () w'∧Own w' B 95 32 (.slice (some ⟨g,0,none⟩) n c) n (cellsOf (ss.set i s))∧Touch (· = g) w w'∧B≤g:=by
 obtain⟨hlen,h2⟩:=h
 rcases h2 with⟨h2,_⟩|⟨g',cap,cur,h1,h2,h3,h4,h5,h6,h7⟩
 ·cases h2
 ·cases h1
  have hcl:=a1a hs
  have hsn:ss.length=n:=by omega
  have hus:=a6e s
  have hsz:i * 32+32≤cur.size:=by rw[h6];omega
  have h8:=run_storeCells_at (P:=Tryz.prog) g (i * 32) 95 (u8s s) 0 cur w h3 (by rw[hus,hl.1];omega) (a1u .u8 s)
  rw[Nat.add_zero,hus,hl.1] at h8
  have hput:=b2x u8s 32 ss i s (fun y hy=>by rw[a6e,(hs y hy).1]) (by rw[a6e,hl.1]) hi
  rw[← a5a,← a5a] at hput
  have hcut:cur.toList=cellsOf ss++cur.toList.drop (n * 32):=by rw[← h7,List.take_append_drop]
  have hnew:(cur.toList.take (i * 32)++u8s s++cur.toList.drop (i * 32+32))=cellsOf (ss.set i s)++cur.toList.drop (n * 32):=by
   rw[← hput]
   conv=>lhs;rw[hcut]
   rw[List.take_append_of_le_length (by rw[hcl];omega),List.drop_append_of_le_length (by rw[hcl];omega)]
   simp[List.append_assoc]
  refine⟨w.setRow g (cellsOf (ss.set i s)++cur.toList.drop (n * 32)).toArray,?_,⟨by rw[a1a (a4q hs hl i)];simp;omega,Or.inr ⟨g,c,_,rfl,h2,setRow_heap w g _ _ _ _ h3,h4,h5,?_,?_⟩⟩,a3g w g _,h2⟩
  ·rw[← hnew]
   cases hq:Tryz.prog.info? 95 with
   | none=>have:=a1r;simp[hq] at this
   | some q =>
    have hqs:q.size=32:=by have:=a1r;simpa [hq] using this
    have hc:(Value.agg (u8s s).toArray).cells=(u8s s).toArray:=rfl
    simp[storeVar,sizeOf,typeInfo,hq,hqs,hc,a6e,hl.1,h8]
  ·have hcs:(cellsOf (ss.set i s)).length=n * 32:=by rw[a1a (a4q hs hl i)];simp;omega
   simp[hcs,h6];omega
  ·have hcs:(cellsOf (ss.set i s)).length=n * 32:=by rw[a1a (a4q hs hl i)];simp;omega
   show (cellsOf (ss.set i s)++cur.toList.drop (n * 32)).take (n * 32)=_
   rw[← hcs,List.take_left]
theorem a2w{w:World}{ops:Array Oper}{o:Oper}{a:Act}{K:Act→World→Prop}{Q:Exit→Act→World→Prop}{F:Prop}(hw:Region.wanted o (yielded ops a.tmps)=true)(x y:Operand)(ho:o.op = .store 95 x y)
  (B g i n c:Nat) (hx:a.eval x = .pointer (some ⟨g,i * 32,none⟩)) (s:List Int) (hy:a.eval y = .agg (u8s s).toArray) (hl:Sec s) (ss:List (List Int)) (hs:Secs ss) (hi:i<ss.length) (hg:Own w B 95 32 (.slice (some ⟨g,0,none⟩) n c) n (cellsOf ss))
  (h:∀w',Own w' B 95 32 (.slice (some ⟨g,0,none⟩) n c) n (cellsOf (ss.set i s))→Touch (· = g) w w'→K (a.put o.dst undef) w'):if Region.wanted o (yielded ops a.tmps)=true then Oper.wp Tryz.prog o a w K Q else F:=by
 rw[if_pos hw]
 obtain⟨w',hrun,h1,h2,_⟩:=c9f hg hs hi hl
 unfold Oper.wp execOp
 simp only[ho,hx,hy,Instr.storeAt,Instr.sureAddr,Sem.run_bind,Sem.run_pure,Result.andThen_ok,hrun]
 exact h _ h1 h2
theorem elem_bools:Elem 253 4 1 1 (.bool false):=⟨Tryz.underlying253,by kernel_rfl,by decide,by decide,by decide⟩
def RowB(w:World)(g:Nat)(bs:List Bool):Prop:=w.heap[g]? = some (.cells (bs.map Value.bool).toArray 4 (0,0))
theorem c6m{w:World}{B g n:Nat}(h:w.ownsRow B 4 1 (.slice (some ⟨g,0,none⟩) n n) n (madeCells (Value.bool false).cells (n * 1)).toList):RowB w g (List.replicate n false):=by
 have hz:(Value.bool false).cells=(List.replicate 1 (Value.bool false)).toArray:=rfl
 rw[hz,c3r 1 _ _ (by decide),Nat.mul_one] at h
 rcases h.2 with⟨h2,_⟩|⟨g',cap,cur,h1,h2,h3,h4,h5,h6,h7⟩
 ·cases h2
 ·cases h1
  rw[Nat.mul_one] at h6 h7
  rw[List.take_of_length_le (by simp[h6])] at h7
  rw[RowB,List.map_replicate,← h7]
  exact h3
theorem b9c{w:World}{g:Nat}{bs:List Bool}(h:RowB w g bs){i:Nat}(hi:i<bs.length):w.cell? ⟨g,i,none⟩=some (.bool bs[i]):=a0c h i _ (by simp[hi])
theorem d3d{w:World}{g:Nat}{bs:List Bool}(h:RowB w g bs)(i:Nat)(b:Bool):RowB (w.setCell ⟨g,i,none⟩ (.bool b)) g (bs.set i b):=by
 have:=a0e (i:=i) h (.bool b)
 rw[RowB,this]
 simp[List.map_set]
def madeUpto(made:Wr→Bool)(ws:List Wr)(j:Nat):List Bool:=(ws.take j).map made++List.replicate (ws.length-j) false
theorem b8k(made:Wr→Bool)(ws:List Wr)(j:Nat)(h:j≤ws.length):(madeUpto made ws j).length=ws.length:=by simp[madeUpto];omega
theorem b7b(made:Wr→Bool)(ws:List Wr)(j:Nat)(h:j<ws.length):(madeUpto made ws j).set j (made ws[j])=madeUpto made ws (j+1):=by
 have h1:((ws.take j).map made).length=j:=by simp;omega
 rw[madeUpto,List.set_append_right _ _ (by omega),h1,Nat.sub_self,show ws.length-j=(ws.length-(j+1))+1 by omega,List.replicate_succ,List.set_cons_zero,madeUpto,List.take_succ_eq_append_getElem h,List.map_append,List.append_assoc]
 rfl
theorem b6s(made:Wr→Bool)(ws:List Wr):madeUpto made ws ws.length=ws.map made:=by simp[madeUpto]
theorem b7v{w:World}{B:Nat}{e:TypeId}{sz n m g c:Nat}{cs:List Value}(h:Own w B e sz (.slice (some ⟨g,0,none⟩) m c) n cs):B≤g∧g<w.heap.size:=by
 rcases h.2 with⟨h2,_⟩|⟨g',cap,cur,h1,h2,h3,_⟩
 ·cases h2
 ·cases h1
  exact⟨h2,(Array.getElem?_eq_some_iff.1 h3).1⟩
theorem a5e{w:World}{B:Nat}{e:TypeId}{sz n c:Nat}{p:Option Addr}{cs:List Value}(h:Own w B e sz (.slice p n c) n cs)(hn:0<n):∃g,p=some ⟨g,0,none⟩:=by
 rcases h.2 with⟨h2,h3⟩|⟨g',cap,cur,h1,_⟩
 ·omega
 ·cases h1;exact⟨_,rfl⟩
theorem a2h{w:World}{B gm i:Nat}{e:TypeId}{sz n:Nat}{v u:Value}{cs:List Value}(h:Own w B e sz v n cs)(hne:∀g m c,v = .slice (some ⟨g,0,none⟩) m c→g≠gm):Own (w.setCell ⟨gm,i,none⟩ u) B e sz v n cs:=by
 refine⟨h.1,?_⟩
 rcases h.2 with h2|⟨g,cap,cur,hv,h3,h4,h5⟩
 ·exact Or.inl h2
 ·exact Or.inr ⟨g,cap,cur,hv,h3,(Below.heap_setCell _ _ _ _ (hne g _ _ hv)).trans h4,h5⟩
theorem own_base{w:World}{B B':Nat}{e:TypeId}{sz n:Nat}{v:Value}{cs:List Value}(h:Own w B e sz v n cs)(hB:B'≤B):Own w B' e sz v n cs:=by
 refine⟨h.1,?_⟩
 rcases h.2 with h2|⟨g,cap,cur,hv,h3,h4⟩
 ·exact Or.inl h2
 ·exact Or.inr ⟨g,cap,cur,hv,Nat.le_trans hB h3,h4⟩
def staysUpto(made:Wr→Bool)(ws:List Wr)(i:Nat)(x:Wr)(k:Nat):Bool := !made x && !(((ws.take k).drop (i+1)).any fun y=>made y && y.pos == x.pos)
theorem b1p(made:Wr→Bool)(ws:List Wr)(i:Nat)(x:Wr):staysUpto made ws i x (i+1) = !made x:=by
 rw[staysUpto,List.drop_of_length_le (by simp;omega)];simp
theorem b3h(made:Wr→Bool)(ws:List Wr)(i:Nat)(x:Wr)(k:Nat)(hi:i+1≤k)(hk:k<ws.length):staysUpto made ws i x (k+1)=(staysUpto made ws i x k && !(made ws[k] && ws[k].pos == x.pos)):=by
 rw[staysUpto,staysUpto,List.take_succ_eq_append_getElem hk,List.drop_append_of_le_length (by simp;omega),List.any_append]
 simp[Bool.and_assoc]
theorem b5b(made:Wr→Bool)(ws:List Wr)(i:Nat)(x:Wr):staysUpto made ws i x ws.length=staysB made ws i x:=by
 rw[staysUpto,List.take_length,staysB]
theorem a2g(made:Wr→Bool)(ws:List Wr)(i:Nat)(h:i<ws.length):leftUpto made ws (i+1)=leftUpto made ws i++(if staysB made ws i ws[i]=true then [ws[i]] else []):=by
 rw[leftUpto,List.getElem?_eq_getElem h]
theorem a5l(made:Wr→Bool)(ws:List Wr):∀i,(leftUpto made ws i).length≤i
 | 0=>by simp[leftUpto]
 | i+1=>by
  have:=a5l made ws i
  rw[leftUpto,List.length_append]
  have h2:(match ws[i]? with|some x=>if staysB made ws i x=true then [x] else []|none=>[]).length≤1:=by
   split
   ·split<;>simp
   ·simp
  omega
theorem a6j{ops:Array Oper}{rest:List Oper}{o:Oper}{a:Act}{w:World}{Q:Exit→Act→World→Prop}(hgd:o.guard=none)(x:Operand)(ho:o.op = .load 99 x)
  (b off:Nat) (hx:a.eval x = .pointer (some ⟨b,off,none⟩)) (y:Wr) (hs:Sec y.s) (hg:w.rangeAt b off y.c)
  (h:wpList Tryz.prog ops Q rest (a.put o.dst (.agg y.c.toArray)) w):wpList Tryz.prog ops Q (o::rest) a w :=
 wpList_load_mid hgd 99 x ho b off hx y.c _ hg b1q rfl (by rw[a9l,Wr.c_len hs]) h
structure SetIn (w:World) (ps:Option Addr) (n cs:Nat) (pw:Option Addr) (m cw:Nat) (pt:Option Addr) (q ct:Nat) (ss:List (List Int)) (ws:List Wr) (ts:List (Int×Int)):Prop where
 safe:Rd w 32 (.slice ps n cs) n (cellsOf ss)
 sec:Secs ss
 sl:ss.length=n
 n1:n≤1000
 wait:Rd w 36 (.slice pw m cw) m (wrsC ws)
 wsec:∀x∈ws,Sec x.s
 wl:ws.length=m
 m1:m≤1000
 pos:∀x∈ws,0≤x.pos∧x.pos<(n:Int)
 tags:Rd w 2 (.slice pt q ct) q (tagsC ts)
 q1:q≤1000
set_option maxHeartbeats 3200000 in
set_option maxRecDepth 100000 in
theorem rsettle(w:World)(ps:Option Addr)(n cs:Nat)(pw:Option Addr)(m cw:Nat)(pt:Option Addr)(q ct:Nat)(ss:List (List Int))(ws:List Wr)(ts:List (Int×Int))(h:SetIn w ps n cs pw m cw pt q ct ss ws ts) :
  Calls Tryz.prog 197 #[.slice ps n cs,.slice pw m cw,.slice pt q ct] w fun e w'=>∃po co pl nl cl,e = .returned (.tuple #[.slice po n co,.slice pl nl cl])∧nl=(settle ss ws ts).2.length ∧
   Own w' w.heap.size 95 32 (.slice po n co) n (cellsOf (settle ss ws ts).1)∧Own w' w.heap.size 99 36 (.slice pl nl cl) nl (wrsC (settle ss ws ts).2)∧Below w.heap.size w w':=by
 have HI:=ι h
 have HWC:=ι fun x hx=>Wr.c_len (h.wsec x hx)
 have hm1:(m:Int)≤1000:=by have:=h.m1;omega
 have hn1:(n:Int)≤1000:=by have:=h.n1;omega
 have hm2:=h.m1
 have hn2:=h.n1
 clear h
 go_enter Tryz.func197,Tryz.ntmps197
 go_wp2
 go_loopw [8,9,10] (fun tv sv iv wr=>∃(j:Nat) (t:Int) (sb:Bool),j≤m∧iv = .int .i64 (j:Int)∧tv = .int .i64 t∧sv = .bool sb∧Hid (topOf ts (ws.take j)=(t,sb))∧Below w.heap.size w wr) (fun _ _ iv _=>m-(intOf iv).toNat)
 case atStart=>exact⟨0,0,false,by omega,rfl,rfl,rfl,ι rfl,Below.refl _ _⟩
 case round =>
  obtain⟨j,t,sb,hj,rfl,rfl,rfl,HTP,hbr⟩:=hrel
  by_cases ha:j<m
  ·have ha1:(j:Int)<m:=by omega
   have hjl:j<ws.length:=by rw[HI.out.wl];exact ha
   obtain⟨b1,o1,rfl,hc1,hmm1,hh1,hl1,HR1⟩:=Rd.chunk Wr.c HI.out.wait HWC.out (by decide) ha
   obtain⟨h0,_,h33,h34,h35⟩:=a1y (HI.out.wsec _ (List.getElem_mem hjl)) (Rd.rangeLater (HR1 j hjl) hh1 hbr)
   have hts:=c6j ts ws j hjl
   rw[HTP.out] at hts
   have HTS:=ι hts
   generalize ws[j]=x at *
   have H35:=ι h35
   have HH:=ι fun w' (hr:Rd w' 2 (.slice pt q ct) q (tagsC ts))=>rhas pt q ct ts x.kind x.id w' hr HI.out.q1
   clear HR1 hl1 hts
   obtain⟨hv,hhv⟩:∃hv,hasT ts x=hv:=⟨_,rfl⟩
   rw[show decide ((x.kind,x.id)∈ts)=hv from hhv] at HH
   have HHV:=ι hhv
   clear hhv
   cases hv with
   | false =>
    have HST:Hid (topOf ts (ws.take (j+1))=(t,sb)):=ι (by rw[HTS.out,topStep,HHV.out];rfl)
    go_wp2_with (go_at_call 216;refine(HH.out _ (HI.out.tags.later hbr)).mono ?_;rintro e w2 ⟨rfl,hb2⟩)
    go_roundw
    case rel=>exact⟨j+1,t,sb,by omega,by go_num,rfl,rfl,HST,a0a hbr hb2⟩
    case measure=>simp[intOf];omega
   | true =>
    have h35b:=fun w2 (hb2:Below wr.heap.size wr w2)=>(hb2.cell (p:=⟨b1,o1+j * 36+35,none⟩) (Nat.lt_of_lt_of_le hh1 hbr.size)).trans H35.out
    have HB35:=ι h35b
    clear h35b
    cases sb with
    | false =>
     have HST:Hid (topOf ts (ws.take (j+1))=(x.ep,true)):=ι (by rw[HTS.out,topStep,HHV.out];rfl)
     go_wp2_with (go_at_call 216;refine(HH.out _ (HI.out.tags.later hbr)).mono ?_;rintro e w2 ⟨rfl,hb2⟩;have e35:=HB35.out w2 hb2)
     go_roundw
     case rel=>exact⟨j+1,x.ep,true,by omega,by go_num,rfl,rfl,HST,a0a hbr hb2⟩
     case measure=>simp[intOf];omega
    | true =>
     by_cases hlt:t<x.ep
     ·have hltb:decide (t<x.ep)=true:=by simpa using hlt
      have HST:Hid (topOf ts (ws.take (j+1))=(x.ep,true)):=ι (by rw[HTS.out,topStep,HHV.out];simp[hlt])
      go_wp2_with (go_at_call 216;refine(HH.out _ (HI.out.tags.later hbr)).mono ?_;rintro e w2 ⟨rfl,hb2⟩;have e35:=HB35.out w2 hb2)
      go_roundw
      case rel=>exact⟨j+1,x.ep,true,by omega,by go_num,rfl,rfl,HST,a0a hbr hb2⟩
      case measure=>simp[intOf];omega
     ·have hltb:decide (t<x.ep)=false:=by simpa using hlt
      have HST:Hid (topOf ts (ws.take (j+1))=(t,true)):=ι (by rw[HTS.out,topStep,HHV.out];simp[hlt])
      go_wp2_with (go_at_call 216;refine(HH.out _ (HI.out.tags.later hbr)).mono ?_;rintro e w2 ⟨rfl,hb2⟩;have e35:=HB35.out w2 hb2)
      go_roundw
      case rel=>exact⟨j+1,t,true,by omega,by go_num,rfl,rfl,HST,a0a hbr hb2⟩
      case measure=>simp[intOf];omega
  ·obtain rfl:m=j:=by omega
   clear hj ha
   have HTE:Hid (topOf ts ws=(t,sb)):=ι (by have h:=HTP.out;rwa [List.take_of_length_le (by rw[HI.out.wl];omega)] at h)
   clear HTP
   obtain⟨ib,hib,hbz0,hbz1,hbz2⟩:=info_parts elem_bools.info
   have HSF:=ι (HI.out.safe.later (hbr.alloc hbr.size (.cells #[] 95)))
   go_wp2_with (first|(at_builtin;refine a4n elem_secs rfl (.tmp 49) (.tmp 50) rfl w.heap.size _ 0 [] rfl (a6v _ _ _ _ rfl hbr.size) _ n _ rfl HSF.out (a1u .u8 _) (by omega) (by rw[size_alloc];have:=hbr.size;omega) ?_;intro po co w2 ho hb2;have HO:=ι ho;clear ho;have hb2w:=(hbr.alloc hbr.size (.cells #[] 95)).trans hb2)|(at_make;refine wpList_make_full _ rfl _ _ 253 rfl w2.heap.size 4 ib (.bool false) 1 Tryz.underlying253 hib hbz0 hbz1 .i64 .i64 _ _ m rfl rfl rfl rfl (by rw[hbz2];omega) (by unfold maxLen;omega) (Nat.le_refl _) ?_;intro w3 ho3 hg3;have RB:=ι (c6m ho3);have hb3:=a7e hg3;clear ho3 hg3))
   have ho2:=HO.out
   rw[Nat.zero_add,List.nil_append] at ho2
   have hpo:∀g,po=some ⟨g,0,none⟩→w.heap.size≤g∧g<w2.heap.size:=fun g hg=>by
    subst hg
    exact b7v ho2
   have HPO:=ι hpo
   have HO3:=ι (a0p ho2 hb3)
   have hb3w:Below w.heap.size w w3:=hb2w.trans (hb3.mono hb2w.size)
   have hgm:w.heap.size≤w2.heap.size:=hb2w.size
   obtain⟨gm,hgme⟩:∃gm,w2.heap.size=gm:=⟨_,rfl⟩
   rw[hgme] at RB HPO hgm ⊢
   have HGM:=ι hgme
   obtain⟨mk,hmk⟩:∃mk,madeB ts (t,sb)=mk:=⟨_,rfl⟩
   have HMK:=ι hmk
   have RB0:Hid (RowB w3 gm (madeUpto mk ws 0)):=ι (by
    have h:=RB.out
    rw[madeUpto]
    simpa [HI.out.wl] using h)
   clear HO ho2 hpo hb2 hb2w hb3 RB hgme HSF hib hbz0 hbz1 hbz2 hmk
   go_loopw [13] (fun iv wr=>∃(i:Nat),i≤m∧iv = .int .i64 (i:Int)∧Hid (Own wr w.heap.size 95 32 (.slice po n co) n (cellsOf (outOf mk (ws.take i) ss)))∧Hid (RowB wr gm (madeUpto mk ws i))∧Below w.heap.size w wr) (fun iv _=>m-(intOf iv).toNat)
   case atStart=>exact⟨0,by omega,rfl,HO3,RB0,hb3w⟩
   case round =>
    clear HO3 RB0 hb3w hbr
    obtain⟨i,hi,rfl,HO,RB,hbr⟩:=hrel
    by_cases ha:i<m
    ·have ha1:(i:Int)<m:=by omega
     have hil:i<ws.length:=by rw[HI.out.wl];exact ha
     obtain⟨b1,o1,rfl,hc1,hmm1,hh1,hl1,HR1⟩:=Rd.chunk Wr.c HI.out.wait HWC.out (by decide) ha
     have hxs:=HI.out.wsec _ (List.getElem_mem hil)
     have hxp:=HI.out.pos _ (List.getElem_mem hil)
     have hrg:=HR1 i hil
     have hos:=b3k mk ws ss i hil
     have hml:=b8k mk ws i (by omega)
     have hms:=b7b mk ws i hil
     have hol:=a4e mk (ws.take i) ss
     have hoc:=a5r mk (ws.take i) ss HI.out.sec fun x hx=>HI.out.wsec x (List.mem_of_mem_take hx)
     rw[HI.out.wl] at hml
     rw[HI.out.sl] at hol
     have hmkx:mk ws[i]=(hasT ts ws[i] || (sb && decide (ws[i].ep<t))):=by rw[← HMK.out];rfl
     generalize ws[i]=x at *
     obtain⟨kp,hkp⟩:=Int.eq_ofNat_of_zero_le hxp.1
     have HX:=ι hxs
     have HRG:=ι hrg
     have HOS:=ι hos
     have HMS:=ι hms
     have HOL:=ι hol
     have HOC:=ι hoc
     have HML:=ι hml
     have HKP:=ι hkp
     have hkn:kp<n:=by have:=hxp.2;omega
     have HH:=ι fun w' (hr:Rd w' 2 (.slice pt q ct) q (tagsC ts))=>rhas pt q ct ts x.kind x.id w' hr HI.out.q1
     have hb1g:b1<gm:=by omega
     have hnb:¬b1=gm:=by omega
     have hnb2:¬gm=b1:=by omega
     obtain⟨h0,hS,h33,h34,h35⟩:=a1y HX.out (Rd.rangeLater hrg hh1 hbr)
     obtain⟨hv,hhv⟩:∃hv,hasT ts x=hv:=⟨_,rfl⟩
     rw[show decide ((x.kind,x.id)∈ts)=hv from hhv] at HH
     rw[hhv] at hmkx
     have HAFT:Hid (∀w4,Below wr.heap.size wr w4→w4.cell? ⟨b1,o1+i * 36,none⟩=some (.int .i64 (kp:Int))∧w4.cell? ⟨b1,o1+i * 36+35,none⟩=some (.int .i64 x.ep)∧w4.cell? ⟨gm,i,none⟩=some (.bool ((madeUpto mk ws i)[i]'(by rw[hml];exact ha)))∧w4.frozen? ⟨gm,i,none⟩=false):=ι (fun w4 hb4=>by
      have hbb:b1<wr.heap.size:=Nat.lt_of_lt_of_le hh1 hbr.size
      have hrb:=a0n RB.out hb4 (Array.getElem?_eq_some_iff.1 RB.out).1
      refine⟨?_,?_,b9c hrb (by rw[hml];exact ha),a0d hrb i⟩
      ·rw[hb4.cell (p:=⟨b1,o1+i * 36,none⟩) hbb,h0,HKP.out]
      ·rw[hb4.cell (p:=⟨b1,o1+i * 36+35,none⟩) hbb,h35])
     clear HR1 hl1 hrg hos hms hol hoc hkp hxs hxp hS h0 h35 hhv
     have hcase:(mk x=false∧hv=false∧sb=false)∨(mk x=false∧hv=false∧sb=true∧decide (x.ep<t)=false)∨(mk x=true∧hv=true)∨(mk x=true∧hv=false∧sb=true∧decide (x.ep<t)=true):=by
      cases hv<;>cases sb<;>cases hq:decide (x.ep<t)<;>simp[hmkx,hq]
     clear hmkx
     obtain⟨g,hg⟩:=a5e HO.out (by omega)
     subst hg
     have hgg:=HPO.out g rfl
     have HFALSE:∀w4,Below wr.heap.size wr w4→Own (w4.setCell ⟨gm,i,none⟩ (.bool false)) w.heap.size 95 32 (.slice (some ⟨g,0,none⟩) n co) n (cellsOf (outOf mk (ws.take i) ss))∧(∀b,RowB (w4.setCell ⟨gm,i,none⟩ (.bool b)) gm ((madeUpto mk ws i).set i b))∧∀b,Below w.heap.size w (w4.setCell ⟨gm,i,none⟩ (.bool b)):=fun w4 hb4 =>
      ⟨a2h (a0p HO.out hb4) (fun g' m' c' e=>by cases e;omega),fun b=>d3d (a0n RB.out hb4 (Array.getElem?_eq_some_iff.1 RB.out).1) i b,fun b=>(a0a hbr hb4).setCell (p:=⟨gm,i,none⟩) hgm _⟩
     rcases hcase with⟨hm0,rfl,rfl⟩|⟨hm0,rfl,rfl,hq⟩|⟨hm0,rfl⟩|⟨hm0,rfl,rfl,hq⟩
     ·rw[hm0] at HMS
      have HOS2:Hid (outOf mk (ws.take (i+1)) ss=outOf mk (ws.take i) ss):=ι (by rw[HOS.out,outStep,hm0];rfl)
      clear hm0
      go_wp2_with (go_at_call 216;refine(HH.out _ (HI.out.tags.later hbr)).mono ?_;rintro e w4 ⟨rfl,hb4⟩;obtain⟨e0,e35,em,ez⟩:=HAFT.out w4 hb4)
      have hw5:=HFALSE w4 hb4
      go_roundw
      case rel=>exact⟨i+1,by omega,by go_num,ι (by rw[HOS2.out];exact hw5.1),ι (by rw[← HMS.out];exact hw5.2.1 false),hw5.2.2 false⟩
      case measure=>simp[intOf];omega
     ·rw[hm0] at HMS
      have HOS2:Hid (outOf mk (ws.take (i+1)) ss=outOf mk (ws.take i) ss):=ι (by rw[HOS.out,outStep,hm0];rfl)
      clear hm0
      go_wp2_with (go_at_call 216;refine(HH.out _ (HI.out.tags.later hbr)).mono ?_;rintro e w4 ⟨rfl,hb4⟩;obtain⟨e0,e35,em,ez⟩:=HAFT.out w4 hb4)
      have hw5:=HFALSE w4 hb4
      go_roundw
      case rel=>exact⟨i+1,by omega,by go_num,ι (by rw[HOS2.out];exact hw5.1),ι (by rw[← HMS.out];exact hw5.2.1 false),hw5.2.2 false⟩
      case measure=>simp[intOf];omega
     all_goals
      rw[hm0] at HMS
      have HOS2:Hid (outOf mk (ws.take (i+1)) ss=(outOf mk (ws.take i) ss).set kp x.s):=ι (by rw[HOS.out,outStep,hm0,HKP.out];rfl)
      clear hm0
      go_wp2_with (go_at_call 216;refine(HH.out _ (HI.out.tags.later hbr)).mono ?_;rintro e w4 ⟨rfl,hb4⟩;obtain⟨e0,e35,em,ez⟩:=HAFT.out w4 hb4)
      have hb5:Below w.heap.size w (w4.setCell ⟨gm,i,none⟩ (.bool true)):=(HFALSE w4 hb4).2.2 true
      have HW5:Hid (Own (w4.setCell ⟨gm,i,none⟩ (.bool true)) w.heap.size 95 32 (.slice (some ⟨g,0,none⟩) n co) n (cellsOf (outOf mk (ws.take i) ss))):=ι (a2h (a0p HO.out hb4) (fun g' m' c' e=>by cases e;omega))
      have HRB5:Hid (RowB (w4.setCell ⟨gm,i,none⟩ (.bool true)) gm (madeUpto mk ws (i+1))):=ι (by rw[← HMS.out];exact(HFALSE w4 hb4).2.1 true)
      have hb15:b1<(w4.setCell ⟨gm,i,none⟩ (.bool true)).drew.heap.size:=Nat.lt_of_lt_of_le hh1 hb5.size
      have hp5:=a1y HX.out (Rd.rangeLater HRG.out hh1 hb5)
      have E0:Hid ((w4.setCell ⟨gm,i,none⟩ (.bool true)).cell? ⟨b1,o1+i * 36,none⟩=some (.int .i64 (kp:Int))):=ι (by rw[hp5.1,HKP.out])
      have ES:=ι hp5.2.1
      clear hp5 e0 e35 em ez HFALSE
      refine wp_region_held_drew (S:=Touch (· = g) (w4.setCell ⟨gm,i,none⟩ (.bool true)).drew) (by kernel_rfl) (Touch.refl _ _) (fun hH0 => ?_)
      refine tk 0 rfl ?_
      refine tk 1 rfl ?_
      refine tk 2 rfl ?_
      refine tk 3 rfl ?_
      refine tk 4 rfl ?_
      refine tkv 5 rfl (a0k (by rfl) 3 _ a2m rfl _ rfl b1 (o1+i * 36) rfl (.int .i64 (kp:Int)) (fun w' hw=>by rw[hw.drewL.cell (p:=⟨b1,o1+i * 36,none⟩) hb15 (show ¬b1=g by omega)];exact E0.out)) ?_
      refine tk 6 rfl ?_
      refine tk 7 rfl ?_
      refine tk 8 rfl ?_
      refine tk 9 rfl ?_
      refine tkv 10 rfl (a4i (by rfl) _ rfl b1 (o1+i * 36+1) rfl x.s HX.out.1 (fun w' hw=>hw.drewL.range hb15 (show ¬b1=g by omega) ES.out)) ?_
      refine tk 11 rfl ?_
      refine rd 12 rfl (fun K hK => ?_)
      refine a2w (by rfl) _ _ (by rfl) w.heap.size g kp n co (by rfl) x.s (by rfl) HX.out _ HOC.out (by rw[HOL.out];exact hkn) HW5.out ?_
      intro w6 ho6 ht6
      have HO6:=ι ho6
      have HT6:=ι ht6
      clear ho6
      dsimp only
      refine hK.out _ _ ?_ (fun hHeld => ?_)
      ·exact ht6
      clear hK K ht6
      try simp only[Act.put,List.setIfInBounds_toArray,List.set_cons_zero,List.set_cons_succ]
      refine wpAnyH_done (by kernel_rfl) ?_ _
      have hT6:=HT6.out.drewL
      have HRB6:Hid (RowB w6 gm (madeUpto mk ws (i+1))):=ι (a2j HRB5.out hT6 (by omega))
      have hb6:Below w.heap.size w w6:=hb5.trans (hT6.below hb5.size (fun k hk=>by rw[hk];exact hgg.1))
      clear hHeld hH0
      go_wp2_with fail
      go_roundw
      case rel=>exact⟨i+1,by omega,by go_num,ι (by rw[HOS2.out];exact HO6.out),HRB6,hb6⟩
      case measure=>simp[intOf];omega
    ·obtain rfl:m=i:=by omega
     clear hi ha
     have HOE:Hid (Own wr w.heap.size 95 32 (.slice po n co) n (cellsOf (outOf mk ws ss))):=ι (by have h:=HO.out;rwa [List.take_of_length_le (by rw[HI.out.wl];omega)] at h)
     have RBE:Hid (RowB wr gm (ws.map mk)):=ι (by have h:=RB.out;rw[← HI.out.wl] at h;rwa [b6s] at h)
     clear HO RB
     go_wp2_with fail
     go_loopw [14,15] (fun lv iv wv=>∃(i nl cl:Nat) (pl:Option Addr),i≤m∧iv = .int .i64 (i:Int)∧lv = .slice pl nl cl∧Hid (nl=(leftUpto mk ws i).length)∧Hid (Own wv wr.heap.size 99 36 (.slice pl nl cl) nl (wrsC (leftUpto mk ws i)))∧Below wr.heap.size wr wv) (fun _ iv _=>m-(intOf iv).toNat)
     case atStart=>exact⟨0,0,0,none,by omega,rfl,rfl,ι rfl,ι (a2l _ _ _ _),Below.refl _ _⟩
     case round =>
      obtain⟨i,nl,cl,pl,hi,rfl,rfl,HNL,HO,hb3⟩:=hrel
      have hbw:=hbr.trans (hb3.mono hbr.size)
      have hgl:=(Array.getElem?_eq_some_iff.1 RBE.out).1
      have HRB:=ι (a0n RBE.out hb3 hgl)
      by_cases ha:i<m
      ·have ha1:(i:Int)<m:=by omega
       have hil:i<ws.length:=by rw[HI.out.wl];exact ha
       obtain⟨b1,o1,rfl,hc1,hmm1,hh1,hl1,HR1⟩:=Rd.chunk Wr.c HI.out.wait HWC.out (by decide) ha
       have HCY:=ι fun k (hk:k<ws.length)=>(a1y (HI.out.wsec _ (List.getElem_mem hk)) (Rd.rangeLater (HR1 k hk) hh1 hbw)).1
       have HCM:Hid (∀k (hk:k<ws.length),wr.cell? ⟨gm,k,none⟩=some (.bool (mk ws[k]))):=ι (fun k hk=>by
        have:=b9c (w:=wr) HRB.out (i:=k) (by simpa using hk)
        simpa using this)
       have HX:=ι (HI.out.wsec _ (List.getElem_mem hil))
       have HRX:=ι (Rd.rangeLater (HR1 i hil) hh1 hbw)
       have HLS:=ι (a2g mk ws i hil)
       have cx:=HCY.out i hil
       have cm:=HCM.out i hil
       have HSN:=ι (b3h mk ws i ws[i])
       have HSS:=ι (b1p mk ws i ws[i])
       have HSA:Hid (staysUpto mk ws i ws[i] m=staysB mk ws i ws[i]):=ι (by have:=b5b mk ws i ws[i];rwa [HI.out.wl] at this)
       generalize ws[i]=x at *
       obtain⟨mx,hmx⟩:∃b,mk x=b:=⟨_,rfl⟩
       rw[hmx] at cm HSS
       have hib:(i:Int)+1≤1000:=by omega
       clear HR1 hl1 hmx
       go_wp2_with fail
       go_loopw [16,17] (fun sv kv wv=>∃(k d:Nat) (b:Bool),i+1≤k∧k≤m∧kv = .int .i64 (k:Int)∧sv = .bool b∧Hid (staysUpto mk ws i x k=b)∧wv=wr.drewN d) (fun _ kv _=>m-(intOf kv).toNat)
       case atStart=>exact⟨i+1,0,!mx,by omega,by omega,by go_num,rfl,HSS,rfl⟩
       case round =>
        obtain⟨k,d,b,hk0,hk1,rfl,rfl,HB,rfl⟩:=hrel
        by_cases hk:k<m
        ·have hk2:(k:Int)<m:=by omega
         have hkl:k<ws.length:=by rw[HI.out.wl];exact hk
         have cy:=HCY.out k hkl
         have ck:=HCM.out k hkl
         have hsn:=HSN.out k hk0 hkl
         rw[HB.out] at hsn
         have HS2:=ι hsn
         generalize ws[k]=y at *
         obtain⟨my,hmy⟩:∃b,mk y=b:=⟨_,rfl⟩
         rw[hmy] at ck HS2
         clear hsn hmy
         cases my with
         | false =>
          have HS3:Hid (staysUpto mk ws i x (k+1)=b):=ι (by rw[HS2.out];simp)
          go_wp2_with fail
          go_quiet (fail)
          go_wp2_with fail
          go_roundw
          case rel=>exact⟨k+1,_,b,by omega,by omega,by go_num,rfl,HS3,by first|rfl|simp⟩
          case measure=>simp[intOf];omega
         | true =>
          by_cases hp:y.pos=x.pos
          ·have hp1:(y.pos == x.pos)=true:=by simpa using hp
           have HS3:Hid (staysUpto mk ws i x (k+1)=false):=ι (by rw[HS2.out,hp1];simp)
           clear hp
           go_wp2_with fail
           go_quiet (fail)
           go_wp2_with fail
           go_roundw
           case rel=>exact⟨k+1,_,false,by omega,by omega,by go_num,rfl,HS3,by first|rfl|simp⟩
           case measure=>simp[intOf];omega
          ·have hp1:(y.pos == x.pos)=false:=by simpa using hp
           have HS3:Hid (staysUpto mk ws i x (k+1)=b):=ι (by rw[HS2.out,hp1];simp)
           clear hp
           go_wp2_with fail
           go_quiet (fail)
           go_wp2_with fail
           go_roundw
           case rel=>exact⟨k+1,_,b,by omega,by omega,by go_num,rfl,HS3,by first|rfl|simp⟩
           case measure=>simp[intOf];omega
        ·obtain rfl:m=k:=by omega
         have HBB:Hid (staysB mk ws i x=b):=ι (by rw[← HSA.out];exact HB.out)
         have hbl:b1<wr.heap.size:=Nat.lt_of_lt_of_le hh1 hbw.size
         have hbs:=hb3.size
         have hnl:nl≤1000:=by have:=HNL.out;have:=a5l mk ws i;omega
         clear HB hk hk0 hk1
         cases b with
         | true =>
          have HL2:Hid (leftUpto mk ws (i+1)=leftUpto mk ws i++[x]):=ι (by rw[HLS.out,HBB.out];rfl)
          have HL3:Hid (wrsC (leftUpto mk ws (i+1))=wrsC (leftUpto mk ws i)++x.c):=ι (by rw[HL2.out];simp[wrsC])
          have HRX2:=ι (Rd.rangeLater HRX.out hbl (a1z (Below.refl wr.heap.size wr) d))
          go_wp2_with (first|(refine a6j rfl (.tmp 139) rfl b1 (o1+i * 36) rfl x HX.out HRX2.out ?_)|(refine a0m elem_wrs (by decide) rfl (.tmp 140) rfl x.c rfl (Wr.c_len HX.out) ?_)|(at_builtin;refine a4n elem_wrs rfl (.tmp 136) (.tmp 141) rfl _ _ nl _ rfl ((HO.out.drewN d).alloc _) _ 1 x.c rfl (a1l _ _ _ _ (Wr.c_len HX.out)) (a3a x) (by omega) (by rw[size_alloc];exact Nat.le_succ_of_le hbs) ?_;intro pa ca wa ho hba;rw[← HL3.out] at ho;have HOA:=ι ho;clear ho))
          go_roundw
          case rel=>exact⟨i+1,nl+1,ca,pa,by omega,by go_num,rfl,ι (by rw[HL2.out,List.length_append,← HNL.out];rfl),HOA,((a1z hb3 d).alloc hbs _).trans hba⟩
          case measure=>simp[intOf];omega
         | false =>
          have HL2:Hid (leftUpto mk ws (i+1)=leftUpto mk ws i):=ι (by rw[HLS.out,HBB.out];simp)
          go_wp2_with fail
          go_roundw
          case rel=>exact⟨i+1,nl,cl,pl,by omega,by go_num,rfl,ι (by rw[HL2.out];exact HNL.out),ι (by rw[HL2.out];exact HO.out.drewN d),a1z hb3 d⟩
          case measure=>simp[intOf];omega
      ·obtain rfl:m=i:=by omega
       have HSET:Hid (settle ss ws ts=(outOf mk ws ss,leftUpto mk ws m)):=ι (by rw[settle,HTE.out,HMK.out,HI.out.wl])
       go_wp2_with fail
       go_ret2
       rw[HSET.out]
       exact⟨po,co,pl,nl,cl,rfl,HNL.out,a0p HOE.out hb3,own_base HO.out hbr.size,hbw⟩
end dsk
namespace dsk
set_option maxRecDepth 100000
open Go.ChangeShapes Go.WideShapes Go.ChangeAt Go.RowKit
open rows
open sec
def syncR(st:St)(ts:List (Int×Int)):Int×St :=
 if asks st=true then (3,st.asked1) else (0,{ st with safe:=(settle st.safe st.wait ts).1,wait:=(settle st.safe st.wait ts).2,asked:=st.asked+1,log:=st.log++[(2,w0,ts)] })
set_option maxHeartbeats 3200000 in
theorem d3r(S:Nat→Prop)(g:Nat)(st:St)(w:World)(h:RefIs w S g st)(hf:st.few)(p:Option Addr)(q c:Nat)(ts:List (Int×Int))(hn:asks st=true) :
  Calls Tryz.prog 162 #[.pointer (some ⟨g,0,none⟩),.slice p q c] w (RefDone S g w (3,st.asked1)):=by
 obtain⟨vs,vw,vl,vb,h⟩:=h
 have HA:=ι h
 have HF:=ι (rfails' S g st _ _ _ vb w h (by have:=hf.bn;omega) ⟨hf.as0,by have:=hf.as1;omega⟩)
 rw[show decide (st.asked∈st.bad)=true from hn] at HF
 clear h hf hn
 go_enter Tryz.func162,Tryz.ntmps162
 go_wp2_with (go_at_call 141;refine HF.out.mono ?_;rintro e w1 ⟨rfl,hrow,ht,hsz⟩;have HR:=ι (b1w HA.out ht hrow);have HT:=ι ht;clear hrow ht hsz)
 go_ret
 exact⟨rfl,HR.out,HT.out⟩
theorem ap_rd2{t e:TypeId}{sz by_:Nat}{z:Value}(E:Elem t e sz by_ z){w:World}{ops:Array Oper}{rest:List Oper}{o:Oper}{a:Act}{Q:Exit→Act→World→Prop}(hgd:o.guard=none)(s x:Operand)
  (ho:o.op = .call { callee := .builtin .append,args := #[s,x],argTypes := #[t,t] })
  (B:Nat) (v:Value) (n:Nat) (cs:List Value) (hs:a.eval s=v) (hown:Own w B e sz v n cs) (y:Value) (m:Nat) (ds:List Value) (hx:a.eval x=y) (hrd:Rd w sz y m ds) (h1:∀u∈ds,u.oneCell'=true) (hl:n+m≤1000000) (hB:B≤w.heap.size)
  (h:∀p c w',Own w' B e sz (.slice p (n+m) c) (n+m) (cs++ds)→Below B w w'→Touch (fun k=>v.ownBlock=some k) w w'→wpList Tryz.prog ops Q rest (a.put o.dst (.slice p (n+m) c)) w'):wpList Tryz.prog ops Q (o::rest) a w:=by
 refine wpList_plain hgd fun K hK => ?_
 obtain⟨p,c,w',hr,h2,h3,h4⟩:=c9c E (w:=w) o.type B v n cs hown y m ds hrd h1 hl hB
 unfold Oper.wp
 simp[execOp,ho,resolve,invoke,builtin,hs,hx,hr,Result.andThen]
 exact hK _ _ (h p c w' h2 h3 h4)
theorem d3x{ops:Array Oper}{rest:List Oper}{o:Oper}{a:Act}{w:World}{Q:Exit→Act→World→Prop}(hgd:o.guard=none)(T:TypeId)(parts:Array (Nat×Operand))(ho:o.op = .build T parts)(vs:List (Nat×Value))(hx:(parts.toList.map fun x=>(x.1,a.eval x.2))=vs)(cells:Array Value)(hf:Tryz.prog.built T vs=some cells)
  (h:wpList Tryz.prog ops Q rest (a.put o.dst (.agg cells)) w):wpList Tryz.prog ops Q (o::rest) a w:=by
 refine wpList_plain hgd fun K hK => ?_
 have hr:=run_build (P:=Tryz.prog) w T (parts.map fun x=>(x.1,a.eval x.2)) cells (by rw[Array.toList_map,hx];exact hf)
 unfold Oper.wp execOp
 simp only[ho,Sem.run_bind,hr,Result.andThen_ok]
 exact hK _ _ h
def AfterSync(w1 wc:World)(g n:Nat)(pl:Option Addr)(l cl:Nat)(vb:Value)(st:St)(SO:List (List Int)×List Wr):Prop:=∃po co pl2 nl cl2,wc.heap[g]? = some (.cells #[.slice po n co,.slice pl2 nl cl2,.int .i64 st.ep,.slice pl l cl,vb,.int .i64 (st.asked+1)] 56 (0,0)) ∧
 Own wc w1.heap.size 95 32 (.slice po n co) n (cellsOf SO.1)∧Own wc w1.heap.size 99 36 (.slice pl2 nl cl2) nl (wrsC SO.2)∧nl=SO.2.length∧Touch (· = g) w1 wc
set_option maxHeartbeats 3200000 in
theorem c9p(S:Nat→Prop)(g:Nat)(st:St)(w:World)(h:RefIs w S g st)(hf:st.few)(hsl:st.safe.length≤1000)(hpos:∀x∈st.wait,0≤x.pos∧x.pos<(st.safe.length:Int))(p:Option Addr)(q c:Nat)(ts:List (Int×Int))(ht:Rd w 2 (.slice p q c) q (tagsC ts))(hti:InS (· ≠ g) (.slice p q c))(hq:q≤1000)(hn:asks st=false) :
  Calls Tryz.prog 162 #[.pointer (some ⟨g,0,none⟩),.slice p q c] w (RefDone S g w (0,{ st with safe:=(settle st.safe st.wait ts).1,wait:=(settle st.safe st.wait ts).2,asked:=st.asked+1,log:=st.log++[(2,w0,ts)] })):=by
 obtain⟨vs,vw,vl,vb,h⟩:=h
 obtain⟨ps,cs,hvs⟩:=a5k h.safe
 subst hvs
 obtain⟨pw,cw,hvw⟩:=a5k h.wait
 subst hvw
 obtain⟨es,hes⟩:=h.log
 obtain⟨pl,cl,hvl⟩:=a5k hes.cells
 subst hvl
 have HA:=ι h
 have hlt:=h.lt
 have HF:=ι (rfails' S g st _ _ _ vb w h (by have:=hf.bn;omega) ⟨hf.as0,by have:=hf.as1;omega⟩)
 rw[show decide (st.asked∈st.bad)=false from hn] at HF
 have HE:=ι hes
 have HTG:=ι ht
 have HTI:=ι hti
 have hql:ts.length=q:=Rd.count tagC ht (fun x _=>rfl) (by decide)
 have HQL:=ι hql
 have HFEW:=ι hf
 have HPOS:=ι hpos
 have hln:=hf.ln
 have hwn:=hf.wn
 have hqi:(q:Int)≤1000:=by omega
 clear h hf hes ht hti hql hpos hn
 go_enter Tryz.func162,Tryz.ntmps162
 go_wp2_with fail
 refine HF.out.mono ?_
 rintro e w1 ⟨rfl,hrow,ht1,hsz⟩
 have c0:w1.cell? ⟨g,0,none⟩=some (.slice ps st.safe.length cs):=a0c hrow 0 _ rfl
 have c1:w1.cell? ⟨g,1,none⟩=some (.slice pw st.wait.length cw):=a0c hrow 1 _ rfl
 have HROW:=ι hrow
 have HT:=ι ht1
 have HSZ:=ι hsz
 have hg1:g<w1.heap.size:=by omega
 have HTG1:Hid (Rd w1 2 (.slice p q c) q (tagsC ts)):=ι (Rd.kept HTG.out HTI.out (ht1.keeps fun b hb=>hb))
 have HSI:Hid (SetIn w1.drew ps st.safe.length cs pw st.wait.length cw p q c st.safe st.wait ts):=ι
  ⟨(HA.out.keepSafe ht1).1,HFEW.out.ss,rfl,hsl,(HA.out.keepWait ht1).1,HFEW.out.ws,rfl,by omega,HPOS.out,HTG1.out,hq⟩
 have HSET:=ι (rsettle w1.drew ps st.safe.length cs pw st.wait.length cw p q c st.safe st.wait ts HSI.out)
 obtain⟨SO,hSO⟩:∃SO,settle st.safe st.wait ts=SO:=⟨_,rfl⟩
 rw[hSO] at HSET ⊢
 have HSO:=ι hSO
 clear hrow ht1 hsz hSO HSI
 go_wp2_with fail
 go_cut [] from 7 (fun wc=>AfterSync w1 wc g st.safe.length pl st.log.length cl vb st SO)
 case first =>
  have htr:True:=trivial
  refine wp_region_held_drew (S:=fun _=>True) (by kernel_rfl) trivial (fun hH0 => ?_)
  refine tk 0 rfl ?_
  refine tk 1 rfl ?_
  refine tk 2 rfl ?_
  refine tk 3 rfl ?_
  refine tk 4 rfl ?_
  refine tk 6 rfl ?_
  refine tk 7 rfl ?_
  refine tk 8 rfl ?_
  refine tk 10 rfl ?_
  refine wpAnyH_ready (rs:=[5,9]) (by kernel_rfl) (by simp) ?_
  refine AllReadyH.cons (o:={ dst:=some 13,op:=Op.load 22 (Operand.tmp 12),type:=22,pos := "ref.go:125", after := #[{ on:=4,ground:=Ground.data }],guard:=none }) rfl (fun K hK => ?_) (AllReadyH.cons (o:={ dst:=some 17,op:=Op.load 54 (Operand.tmp 16),type:=54,pos := "ref.go:125", after := #[{ on:=8,ground:=Ground.data }],guard:=none }) rfl (fun K hK => ?_) AllReadyH.nil)
  ·go_simp
   refine hK.out _ _ trivial (fun hHeld => ?_)
   clear hK K
   try simp only[Act.put,List.setIfInBounds_toArray,List.set_cons_zero,List.set_cons_succ]
   refine rd 9 rfl (fun K hK => ?_)
   go_simp
   refine hK.out _ _ trivial (fun hHeld => ?_)
   clear hK K
   try simp only[Act.put,List.setIfInBounds_toArray,List.set_cons_zero,List.set_cons_succ]
   refine rd 11 rfl (fun K hK => ?_)
   go_simp
   refine HSET.out.mono ?_
   rintro e w2 ⟨po,co,pl2,nl,cl2,rfl,hnl,hoo,hol,hb2⟩
   have hrow2:=a0n HROW.out (a0h hb2) hg1
   have c0b:=a0c hrow2 0 (.slice ps st.safe.length cs) rfl
   have c1b:=a0c hrow2 1 (.slice pw st.wait.length cw) rfl
   have z0b:=a0d hrow2 0
   have z1b:=a0d hrow2 1
   have HR2:=ι hrow2
   have HOO:=ι hoo
   have HOL:=ι hol
   have HNL:=ι hnl
   have HB2:=ι (a0h hb2)
   clear hrow2 hoo hol hnl hb2
   dsimp only
   refine hK.out _ _ trivial (fun hHeld => ?_)
   clear hK K
   try simp only[Act.put,List.setIfInBounds_toArray,List.set_cons_zero,List.set_cons_succ]
   refine tk 12 rfl ?_
   refine tk 13 rfl ?_
   refine tk 14 rfl ?_
   refine tk 15 rfl ?_
   refine tk 16 rfl ?_
   refine rd 17 rfl (fun K hK => ?_)
   go_simp
   refine hK.out _ _ trivial (fun hHeld => ?_)
   clear hK K
   try simp only[Act.put,List.setIfInBounds_toArray,List.set_cons_zero,List.set_cons_succ]
   refine tk 18 rfl ?_
   refine tk 19 rfl ?_
   refine rd 20 rfl (fun K hK => ?_)
   go_simp
   refine hK.out _ _ trivial (fun hHeld => ?_)
   clear hK K
   try simp only[Act.put,List.setIfInBounds_toArray,List.set_cons_zero,List.set_cons_succ]
   refine wpAnyH_done (by kernel_rfl) ?_ _
   go_wp2_with fail
   go_meet
   case rel=>exact⟨po,co,pl2,nl,cl2,a0e (a0e HR2.out _) _,ownsRow_setCell_below (ownsRow_setCell_below HOO.out (a:=⟨g,0,none⟩) hg1 _) (a:=⟨g,1,none⟩) hg1 _,ownsRow_setCell_below (ownsRow_setCell_below HOL.out (a:=⟨g,0,none⟩) hg1 _) (a:=⟨g,1,none⟩) hg1 _,HNL.out,Touch.setCell (S:=(· = g)) (Touch.setCell (S:=(· = g)) (Touch.of_below HB2.out) ⟨g,0,none⟩ rfl _) ⟨g,1,none⟩ rfl _⟩
  ·go_simp
   refine hK.out _ _ trivial (fun hHeld => ?_)
   clear hK K
   try simp only[Act.put,List.setIfInBounds_toArray,List.set_cons_zero,List.set_cons_succ]
   refine rd 5 rfl (fun K hK => ?_)
   go_simp
   refine hK.out _ _ trivial (fun hHeld => ?_)
   clear hK K
   try simp only[Act.put,List.setIfInBounds_toArray,List.set_cons_zero,List.set_cons_succ]
   refine rd 11 rfl (fun K hK => ?_)
   go_simp
   refine HSET.out.mono ?_
   rintro e w2 ⟨po,co,pl2,nl,cl2,rfl,hnl,hoo,hol,hb2⟩
   have hrow2:=a0n HROW.out (a0h hb2) hg1
   have c0b:=a0c hrow2 0 (.slice ps st.safe.length cs) rfl
   have c1b:=a0c hrow2 1 (.slice pw st.wait.length cw) rfl
   have z0b:=a0d hrow2 0
   have z1b:=a0d hrow2 1
   have HR2:=ι hrow2
   have HOO:=ι hoo
   have HOL:=ι hol
   have HNL:=ι hnl
   have HB2:=ι (a0h hb2)
   clear hrow2 hoo hol hnl hb2
   dsimp only
   refine hK.out _ _ trivial (fun hHeld => ?_)
   clear hK K
   try simp only[Act.put,List.setIfInBounds_toArray,List.set_cons_zero,List.set_cons_succ]
   refine tk 12 rfl ?_
   refine tk 13 rfl ?_
   refine tk 14 rfl ?_
   refine tk 15 rfl ?_
   refine tk 16 rfl ?_
   refine rd 17 rfl (fun K hK => ?_)
   go_simp
   refine hK.out _ _ trivial (fun hHeld => ?_)
   clear hK K
   try simp only[Act.put,List.setIfInBounds_toArray,List.set_cons_zero,List.set_cons_succ]
   refine tk 18 rfl ?_
   refine tk 19 rfl ?_
   refine rd 20 rfl (fun K hK => ?_)
   go_simp
   refine hK.out _ _ trivial (fun hHeld => ?_)
   clear hK K
   try simp only[Act.put,List.setIfInBounds_toArray,List.set_cons_zero,List.set_cons_succ]
   refine wpAnyH_done (by kernel_rfl) ?_ _
   go_wp2_with fail
   go_meet
   case rel=>exact⟨po,co,pl2,nl,cl2,a0e (a0e HR2.out _) _,ownsRow_setCell_below (ownsRow_setCell_below HOO.out (a:=⟨g,0,none⟩) hg1 _) (a:=⟨g,1,none⟩) hg1 _,ownsRow_setCell_below (ownsRow_setCell_below HOL.out (a:=⟨g,0,none⟩) hg1 _) (a:=⟨g,1,none⟩) hg1 _,HNL.out,Touch.setCell (S:=(· = g)) (Touch.setCell (S:=(· = g)) (Touch.of_below HB2.out) ⟨g,0,none⟩ rfl _) ⟨g,1,none⟩ rfl _⟩
 case rest =>
  obtain⟨po,co,pl2,nl,cl2,hrq,hoo,hol,hnl,htq⟩:=hcut
  have hT1:Touch (· = g) w wc:=HT.out.trans htq
  have hgc:g<wc.heap.size:=(Array.getElem?_eq_some_iff.1 hrq).1
  have c3:wc.cell? ⟨g,3,none⟩=some (.slice pl st.log.length cl):=a0c hrq 3 _ rfl
  have HRC:=ι hrq
  have HEC:=ι (a3l HE.out (S':=fun b=>S b∧b≠g) (hT1.keeps fun b hb=>hb.2) fun b hb=>hb)
  have HLT2:=ι (HEC.out.cells)
  have HLO:=ι (b6g HE.out)
  have HTC:Hid (Rd wc 2 (.slice p q c) q (tagsC ts)):=ι (Rd.kept HTG.out HTI.out (hT1.keeps fun b hb=>hb))
  have HTO:Hid (∀u∈tagsC ts,u.oneCell'=true):=ι (fun u hu=>by
   obtain⟨l,hl,hul⟩:=List.mem_flatten.1 hu
   obtain⟨x,_,rfl⟩:=List.mem_map.1 hl
   simp only[tagC,List.mem_cons,List.not_mem_nil,or_false] at hul
   rcases hul with rfl|rfl<;>rfl)
  obtain⟨cl',hcl'⟩:∃c,((st.log.zip es).map fun x=>evC x.1 x.2).flatten=c:=⟨_,rfl⟩
  rw[hcl'] at HLT2 HLO
  have HCL:=ι hcl'
  have HOO:=ι hoo
  have HOL:=ι hol
  have HNL:=ι hnl
  have HT1:=ι hT1
  have HTQ:=ι htq
  clear hrq hcl' hoo hol hnl hT1 htq c0 c1
  generalize hll:st.log.length=l at *
  have HLL:=ι hll
  clear hll
  have HLA:=ι (HLT2.out.later (a0b (Below.refl _ wc) (.cells #[] 143)))
  have HFIN4:∀(pz:Option Addr) (cz:Nat) (pt2:Option Addr) (ct2:Nat) (wz:World),Own wz wc.heap.size 143 38 (.slice pz (l+1) cz) (l+1) (cl'++evC (2,w0,ts) (.slice pt2 q ct2))→Below wc.heap.size wc wz→Rd wz 2 (.slice pt2 q ct2) q (tagsC ts)→InS (fun b=>wc.heap.size≤b∧b<wz.heap.size) (.slice pt2 q ct2) →
    wz.heap[g]? = some (.cells #[.slice po st.safe.length co,.slice pl2 nl cl2,.int .i64 st.ep,.slice pl l cl,vb,.int .i64 (st.asked+1)] 56 (0,0))→RefDone S g w (0,{ st with safe:=(settle st.safe st.wait ts).1,wait:=(settle st.safe st.wait ts).2,asked:=st.asked+1,log:=st.log++[(2,w0,ts)] }) (.returned (.int .i64 0)) (wz.setCell ⟨g,3,none⟩ (.slice pz (l+1) cz)):=fun pz cz pt2 ct2 wz ho hb htr hti hr=>by
   rw[HSO.out]
   rw[← HCL.out] at ho
   have hT:Touch (· = g) w (wz.setCell ⟨g,3,none⟩ (.slice pz (l+1) cz)):=Touch.setCell (S:=(· = g)) (HT1.out.trans (Touch.of_below hb)) ⟨g,3,none⟩ rfl _
   have hsz:=a1p wz ⟨g,3,none⟩ (.slice pz (l+1) cz)
   have hWc:=HT1.out.size
   have hcv:=hb.size
   have hw1:=HTQ.out.size
   have hs1:=HSZ.out
   have hio:=a3i ho
   have hi1:=a3i HOO.out
   have hi2:=a3i HOL.out
   have hl1:=HLL.out
   have hlen:SO.1.length=st.safe.length:=by rw[← HSO.out,settle];exact a4e _ _ _
   have hql:=HQL.out
   have hnl:=HNL.out
   refine⟨rfl,⟨_,_,_,_,a0e hr _,Or.inl HA.out.own,?_,?_,?_,?_,⟨es++[(.slice pt2 q ct2)],?_⟩,(HA.out.keepBad hT).1,(HA.out.keepBad hT).2⟩,hT⟩
   ·show Rd _ 32 _ SO.1.length (cellsOf SO.1)
    rw[hlen]
    exact Rd.set (HOO.out.rd.later hb) (hi1.mono fun b hb=>by have:=hb.1;omega)
   ·exact hi1.mono fun b hb=>⟨Or.inr ⟨by have:=hb.1;omega,by rw[hsz];have:=hb.2;omega⟩,by have:=hb.1;omega⟩
   ·show Rd _ 36 _ SO.2.length (wrsC SO.2)
    rw[← hnl]
    exact Rd.set (HOL.out.rd.later hb) (hi2.mono fun b hb=>by have:=hb.1;omega)
   ·exact hi2.mono fun b hb=>⟨Or.inr ⟨by have:=hb.1;omega,by rw[hsz];have:=hb.2;omega⟩,by have:=hb.1;omega⟩
   ·show EvsIn _ _ _ (st.log++[((2:Int),w0,ts)]) (st.log++[((2:Int),w0,ts)]).length _
    have e1:(st.log++[((2:Int),w0,ts)]).length=l+1:=by simp[hl1]
    rw[e1]
    exact b6f HE.out hl1.symm (hT.keeps fun b hb=>hb.2) (fun b hb=>⟨Or.inl hb.1,hb.2⟩) (Rd.set ho.rd (hio.mono fun b hb=>by have:=hb.1;omega)) (hio.mono fun b hb=>⟨Or.inr ⟨by have:=hb.1;omega,by rw[hsz];exact hb.2⟩,by have:=hb.1;omega⟩)
     ⟨pt2,ct2,by show Value.slice pt2 q ct2 = .slice pt2 ts.length ct2;rw[hql],by show Rd _ 2 _ ts.length _;rw[hql];exact Rd.set htr (hti.mono fun b hb=>by have:=hb.1;omega),hti.mono fun b hb=>⟨Or.inr ⟨by have:=hb.1;omega,by rw[hsz];exact hb.2⟩,by have:=hb.1;omega⟩⟩
  go_wp2_with (first|(at_builtin;refine a4n a1f rfl (.tmp 27) (.tmp 31) rfl wc.heap.size _ 0 [] rfl (a6v _ _ _ _ rfl (Nat.le_refl _)) _ l _ rfl HLA.out HLO.out (by omega) (by rw[size_alloc];omega) ?_;intro pa ca wa ho hba;rw[Nat.zero_add,List.nil_append] at ho;have HOA:=ι ho;clear ho;have hba2:Below wc.heap.size wc wa:=(a0b (Below.refl _ wc) _).trans hba;have HTA:=ι (HTC.out.later (hba2.alloc hba2.size (.cells #[] 97))))|(at_builtin;refine a4n a2u rfl (.tmp 33) (.tmp 34) rfl wa.heap.size _ 0 [] rfl (a6v _ _ _ _ rfl (Nat.le_refl _)) _ q _ rfl HTA.out HTO.out (by omega) (by rw[size_alloc];omega) ?_;intro pt2 ct2 wt hot hbt;have hbat:Below wa.heap.size wa wt:=(a0b (Below.refl _ wa) _).trans hbt;have HOA2:=ι (a0p HOA.out hbat);rw[Nat.zero_add,List.nil_append] at hot;have HOT:=ι hot;clear hot)|(refine d3x rfl 143 #[(0,.const (.int .i64 2)),(2,.tmp 35)] rfl [(0,.int .i64 2),(2,.slice pt2 q ct2)] rfl _ (b6o ts _ rfl) ?_)|(refine a0m a1f (by decide) rfl (.tmp 36) rfl (evC (2,w0,ts) (.slice pt2 q ct2)) rfl rfl ?_)|(at_builtin;refine ap_rd2 a1f rfl (.tmp 32) (.tmp 37) rfl wc.heap.size (.slice pa l ca) l cl' rfl (HOA2.out.alloc _) _ 1 _ rfl (a1l _ _ _ _ rfl) (a5j _ _ rfl) (by omega) (by rw[size_alloc];have:=hba2.size;have:=hbat.size;omega) ?_;intro pz cz wz hoz hbz htz;have HOZ:=ι hoz;clear hoz;have hbz2:Below wc.heap.size wc wz:=(hba2.trans ((a0b hbat _).mono hba2.size)).trans hbz;have hrz:=a0n HRC.out hbz2 hgc;have c3z:wz.cell? ⟨g,3,none⟩=some (.slice pl l cl):=a0c hrz 3 _ rfl;have z3z:=a0d hrz 3;have HRZ:=ι hrz;have HTZ:Hid (Touch (fun k=>(Value.slice pa l ca).ownBlock=some k) (wt.alloc _) wz):=ι htz;clear hrz htz))
  have hdis:∀k,wa.heap.size≤k→¬((Value.slice pa l ca).ownBlock=some k):=fun k hk e=>by
   cases pa with
   | none=>cases e
   | some ad =>
    have e2:some ad.block=some k:=e
    have e3:=Option.some.inj e2
    rcases HOA.out.2 with⟨h2,_⟩|⟨g',cap,cur,h1,h2,h3,_⟩
    ·cases h2
    ·cases h1
     have h4:=(Array.getElem?_eq_some_iff.1 h3).1
     dsimp only at e3
     omega
  have hti:=a3i HOT.out
  have htr:Rd wz 2 (.slice pt2 q ct2) q (tagsC ts):=Rd.kept (S:=fun k=>wa.heap.size≤k) (HOT.out.rd.later (a0b (Below.refl _ wt) _)) (hti.mono fun b hb=>hb.1) (HTZ.out.keeps hdis)
  have hwt:=hbat.size
  have hwa:=hba2.size
  have hwz:=HTZ.out.size
  rw[size_alloc] at hwz
  have hfin:=HFIN4 pz cz pt2 ct2 wz HOZ.out hbz2 htr (hti.mono fun b hb=>⟨by have:=hb.1;omega,by have:=hb.2;omega⟩) HRZ.out
  go_ret
  exact hfin
theorem rsync(S:Nat→Prop)(g:Nat)(st:St)(w:World)(h:RefIs w S g st)(hf:st.few)(hsl:st.safe.length≤1000)(hpos:∀x∈st.wait,0≤x.pos∧x.pos<(st.safe.length:Int))(p:Option Addr)(q c:Nat)(ts:List (Int×Int))(ht:Rd w 2 (.slice p q c) q (tagsC ts))(hti:InS (· ≠ g) (.slice p q c))(hq:q≤1000) :
  Calls Tryz.prog 162 #[.pointer (some ⟨g,0,none⟩),.slice p q c] w (RefDone S g w (syncR st ts)):=by
 by_cases ha:asks st=true
 ·have e:syncR st ts=(3,st.asked1):=by rw[syncR,if_pos ha]
  rw[e]
  exact d3r S g st w h hf p q c ts ha
 ·have e:syncR st ts=(0,{ st with safe:=(settle st.safe st.wait ts).1,wait:=(settle st.safe st.wait ts).2,asked:=st.asked+1,log:=st.log++[(2,w0,ts)] }):=by rw[syncR,if_neg ha]
  rw[e]
  exact c9p S g st w h hf hsl hpos p q c ts ht hti hq (by simpa using ha)
end dsk
namespace dsk
set_option maxRecDepth 100000
open Go.ChangeShapes Go.WideShapes Go.ChangeAt Go.RowKit
open rows
open sec
structure St.fine (st:St):Prop where
 few:st.few
 n1:st.safe.length≤65
 pos:∀x∈st.wait,0≤x.pos∧x.pos<(st.safe.length:Int)
def CodeDone(CA:World→(Nat→Prop)→Value→St→Prop)(F:Nat→Prop)(d:Value)(w:World)(r:Int×St)(e:Ending)(w':World):Prop:=e = .returned (.int .i64 r.1)∧CA w' (grow F w w') d r.2∧Touch F w w'
def readR(st:St)(i:Int):Value:=if 0≤i∧i<(st.safe.length:Int) then .tuple #[agg (readOf st i.toNat),.int .i64 0] else .tuple #[agg zero32,.int .i64 1]
theorem b4l{w w':World}{S:Nat→Prop}{g:Nat}{st:St}(h:RefIs w S g st)(k:Keeps S w w'):RefIs w' S g st:=by
 obtain⟨vs,vw,vl,vb,h⟩:=h
 obtain⟨es,he⟩:=h.log
 have k2:Keeps (fun b=>S b∧b≠g) w w':=k.mono fun _ hb=>hb.1
 exact⟨vs,vw,vl,vb,(k.2 g h.lt h.own).trans h.row,h.own,Rd.kept h.safe h.safeS k2,h.safeS,Rd.kept h.wait h.waitS k2,h.waitS,⟨es,a3l he k2 fun _ hb=>hb⟩,Rd.kept h.bad h.badS k2,h.badS⟩
theorem RefIs.lt{w:World}{S:Nat→Prop}{g:Nat}{st:St}(h:RefIs w S g st):g<w.heap.size∧S g:=by
 obtain⟨vs,vw,vl,vb,h⟩:=h
 exact⟨h.lt,h.own⟩
end dsk
namespace dsk
set_option maxRecDepth 100000
open Go.ChangeShapes Go.WideShapes Go.ChangeAt Go.RowKit
open rows
open sec
end dsk
namespace dsk
open Go.ChangeShapes Go.WideShapes Go.ChangeAt Go.RowKit
open rows
open sec
end dsk
namespace dsk
open Go.ChangeShapes Go.WideShapes Go.ChangeAt Go.RowKit
open rows
open sec
end dsk
namespace dsk
open Go.ChangeShapes Go.WideShapes Go.ChangeAt Go.RowKit
open rows
open sec
end dsk
namespace dsk
open Go.ChangeShapes Go.WideShapes Go.ChangeAt Go.RowKit
open rows
open sec
end dsk
namespace dsk
open Go.ChangeShapes Go.WideShapes Go.ChangeAt Go.RowKit
open rows
open sec
structure St.good (k:Nat) (st:St):Prop where
 ss:Secs st.safe
 n1:st.safe.length≤65
 ws:∀x∈st.wait,Sec x.s∧0≤x.pos∧x.pos<(st.safe.length:Int)
 es:∀e∈st.log,Sec e.2.1.s∧e.2.2.length≤50
 wn:st.wait.length≤k
 ln:st.log.length≤k
 bn:st.bad.length≤50
 ep:0≤st.ep∧st.ep≤k
 asked:0≤st.asked∧st.asked≤k
theorem St.good.fine{k:Nat}{st:St}(h:st.good k)(hk:k≤900):st.fine :=
 ⟨⟨h.ss,fun x hx=>(h.ws x hx).1,fun e he=>(h.es e he).1,fun e he=>by have:=(h.es e he).2;omega,by have:=h.wn;omega,by have:=h.ln;omega,by have:=h.bn;omega,h.ep.1,by have:=h.ep.2;omega,h.asked.1,by have:=h.asked.2;omega⟩,h.n1,fun x hx=>(h.ws x hx).2⟩
theorem c4d{k:Nat}{st:St}(h:st.good k):st.asked1.good (k+1) :=
 ⟨h.ss,h.n1,h.ws,h.es,by have:=h.wn;show st.wait.length≤k+1;omega,by have:=h.ln;show st.log.length≤k+1;omega,h.bn,⟨h.ep.1,by have:=h.ep.2;show st.ep≤((k+1:Nat):Int);omega⟩,⟨by have:=h.asked.1;show 0≤st.asked+1;omega,by have:=h.asked.2;show st.asked+1≤((k+1:Nat):Int);omega⟩⟩
theorem a5i(mk:Wr→Bool)(ws:List Wr):∀(j:Nat) (x:Wr),x∈leftUpto mk ws j→x∈ws
 | 0,x,h=>by simp[leftUpto] at h
 | j+1,x,h=>by
  rw[leftUpto,List.mem_append] at h
  rcases h with h|h
  ·exact a5i mk ws j x h
  ·split at h
   ·rename_i y hy
    split at h
    ·rw[List.mem_singleton.1 h];exact List.mem_of_getElem? hy
    ·simp at h
   ·simp at h
end dsk
namespace dsk
set_option maxRecDepth 100000
open Go.ChangeShapes Go.WideShapes Go.ChangeAt Go.RowKit
open rows
open sec
theorem c3g(p:Option Addr)(n c:Nat)(w:World)(h:n≤200)(hn:n<1∨65<n) :
  Calls Tryz.prog 10 #[.slice p n c] w (Rt w (.tuple #[.pointer none,.int .i64 1])):=by
 have HN:=ι (rnew_no (n:Int) w (WalkArith.wf_i64 (by omega)) (by omega))
 have hn1:(n:Int)≤200:=by omega
 go_enter Tryz.func10,Tryz.ntmps10
 go_wp2_with (go_at_call 58;refine HN.out.mono ?_;rintro e w1 ⟨rfl,rfl⟩)
 go_ret2
 exact⟨rfl,Below.refl _ _⟩
end dsk
namespace dsk
set_option maxRecDepth 100000
open Go.ChangeShapes Go.WideShapes Go.ChangeAt Go.RowKit
open rows
open sec
open Go.Maps
def OwnS(S:Nat→Prop)(v:Value):Prop:=∀k,v.ownBlock=some k→S k
def Zn(F:Nat→Prop)(z:Nat→Nat)(k:Nat):Nat→Prop:=fun b=>F b∧z b=k
def seenOf(st:St):List (List Int):=outOf (fun _=>true) st.wait st.safe
structure LogIn (T:Nat→Prop) (w:World) (v:Value) (es:List Ev) (vs:List Value):Prop where
 len:vs.length=es.length
 own:Own w 0 143 38 v es.length ((es.zip vs).map fun x=>evC x.1 x.2).flatten
 tags:∀i (h:i<es.length),∃p c,vs[i]? = some (.slice p (es[i]).2.2.length c)∧Rd w 2 (.slice p (es[i]).2.2.length c) (es[i]).2.2.length (tagsC (es[i]).2.2)∧InS T (.slice p (es[i]).2.2.length c)
def FaultsIn(S:Nat→Prop)(w:World)(v:Value)(bad:List Int)(asked:Int):Prop :=
 (v = .map none∧bad=[]) ∨
 ∃b n,∃D:DataW Unit,v = .map (some b)∧S b∧n≤2000∧w.ownsMap Tryz.prog 3 unitElem b n D∧∀k:Int,wf64 k→asked≤k→Maps.has D (.int .i64 k)=decide (k∈bad)
structure CodeAt (w:World) (F:Nat→Prop) (z:Nat→Nat) (g:Nat) (st:St) (vs vw vn vl vf:Value):Prop where
 row:w.heap[g]? = some (.cells #[.pointer (some ⟨g,0,none⟩),vs,vw,vn,.int .i64 st.ep,vl,.int .i64 st.asked,vf] 104 (0,0))
 own:Zn F z 0 g
 safe:Own w 0 95 32 vs st.safe.length (cellsOf st.safe)
 safeS:OwnS (Zn F z 1) vs
 wait:Own w 0 99 36 vw st.wait.length (wrsC st.wait)
 waitS:OwnS (Zn F z 2) vw
 seen:Own w 0 95 32 vn st.safe.length (cellsOf (seenOf st))
 seenS:OwnS (Zn F z 3) vn
 log:∃es,LogIn (Zn F z 6) w vl st.log es
 logS:OwnS (Zn F z 4) vl
 faults:FaultsIn (Zn F z 5) w vf st.bad st.asked
 eps:∀x∈st.wait,0≤x.ep∧wf64 x.kind∧wf64 x.id
def CA(w:World)(F:Nat→Prop)(d:Value)(st:St):Prop:=∃z g vs vw vn vl vf,d = .pointer (some ⟨g,0,none⟩)∧CodeAt w F z g st vs vw vn vl vf
theorem a1e{S:Nat→Prop}{w w':World}{B:Nat}{e:TypeId}{sz n:Nat}{v:Value}{cs:List Value}(h:Own w B e sz v n cs)(hv:OwnS S v)(k:Keeps S w w'):Own w' B e sz v n cs:=by
 refine⟨h.1,?_⟩
 rcases h.2 with h2|⟨g,cap,cur,hw,h3,h4,h5⟩
 ·exact Or.inl h2
 ·exact Or.inr ⟨g,cap,cur,hw,h3,(k.2 g (Array.getElem?_eq_some_iff.1 h4).1 (hv g (by rw[hw];rfl))).trans h4,h5⟩
theorem a2b{w:World}{B:Nat}{e:TypeId}{sz n:Nat}{v:Value}{cs:List Value}(h:Own w B e sz v n cs){k:Nat}(hk:v.ownBlock=some k):B≤k∧k<w.heap.size:=World.ownsRow.lt h k hk
theorem OwnS.next{F F':Nat→Prop}{z z':Nat→Nat}{w:World}{B k:Nat}{e:TypeId}{sz n:Nat}{v:Value}{cs:List Value}(h:OwnS (Zn F z k) v)(o:Own w B e sz v n cs)(hF:∀b,F b→F' b)(hz:∀b,b<w.heap.size→z' b=z b):OwnS (Zn F' z' k) v :=
 fun b hb=>⟨hF b (h b hb).1,(hz b (a2b o hb).2).trans (h b hb).2⟩
theorem c2q(S:Nat→Prop):OwnS S (.slice none 0 0):=fun k hk=>by simp[Value.ownBlock] at hk
theorem a7b{T:Nat→Prop}{S:Nat→Prop}{w w':World}{v:Value}{es:List Ev}{vs:List Value}(h:LogIn T w v es vs)(hv:OwnS S v)(k:Keeps S w w')(k2:Keeps T w w'):LogIn T w' v es vs :=
 ⟨h.len,a1e h.own hv k,fun i hi=>by
  obtain⟨p,c,h1,h2,h3⟩:=h.tags i hi
  exact⟨p,c,h1,Rd.kept h2 h3 k2,h3⟩⟩
theorem LogIn.mono{T T':Nat→Prop}{w:World}{v:Value}{es:List Ev}{vs:List Value}(h:LogIn T w v es vs)(hT:∀b,b<w.heap.size→T b→T' b):LogIn T' w v es vs :=
 ⟨h.len,h.own,fun i hi=>by
  obtain⟨p,c,h1,h2,h3⟩:=h.tags i hi
  refine⟨p,c,h1,h2,fun a n c' hv hn => ?_⟩
  have hin:=h3 a n c' hv hn
  refine hT _ ?_ hin
  rcases h2 with⟨p',cap',e1,e2,_⟩|⟨b,off,cap',e1,_,_,_,hlt,_⟩
  ·rw[e1] at hv;cases hv;omega
  ·rw[e1] at hv;cases hv;exact hlt⟩
theorem a3s{S:Nat→Prop}{w w':World}{v:Value}{bad:List Int}{asked:Int}(h:FaultsIn S w v bad asked)(k:Keeps S w w'):FaultsIn S w' v bad asked:=by
 rcases h with h|⟨b,n,D,hv,hS,hn,ho,hk⟩
 ·exact Or.inl h
 ·refine Or.inr ⟨b,n,D,hv,hS,hn,?_,hk⟩
  have hlt:=ho.lt
  obtain⟨es,clock,hb,r⟩:=ho
  exact⟨es,clock,(k.2 b hlt hS).trans hb,r⟩
theorem FaultsIn.mono{S S':Nat→Prop}{w:World}{v:Value}{bad:List Int}{asked:Int}(h:FaultsIn S w v bad asked)(hS:∀b,b<w.heap.size→S b→S' b):FaultsIn S' w v bad asked:=by
 rcases h with h|⟨b,n,D,hv,hb,hn,ho,hk⟩
 ·exact Or.inl h
 ·exact Or.inr ⟨b,n,D,hv,hS b ho.lt hb,hn,ho,hk⟩
theorem b2e{S S':Nat→Prop}{w w':World}{v:Value}{bad:List Int}{asked:Int}(h:FaultsIn S w v bad asked)(k:Keeps S w w')(hS:∀b,b<w.heap.size→S b→S' b):FaultsIn S' w' v bad asked:=by
 rcases h with h|⟨b,n,D,hv,hb,hn,ho,hk⟩
 ·exact Or.inl h
 ·have hlt:=ho.lt
  obtain⟨es,clock,he,r⟩:=ho
  exact Or.inr ⟨b,n,D,hv,hS b hlt hb,hn,⟨es,clock,(k.2 b hlt hb).trans he,r⟩,hk⟩
theorem Zn.keeps{F:Nat→Prop}{z:Nat→Nat}{k:Nat}{w w':World}(h:Keeps F w w'):Keeps (Zn F z k) w w':=h.mono fun b hb=>hb.1
theorem a1v{w w':World}{F:Nat→Prop}{z:Nat→Nat}{g:Nat}{st:St}{vs vw vn vl vf:Value}(h:CodeAt w F z g st vs vw vn vl vf)(k:Keeps F w w'):CodeAt w' F z g st vs vw vn vl vf:=by
 obtain⟨es,he⟩:=h.log
 exact⟨(k.2 g (Array.getElem?_eq_some_iff.1 h.row).1 h.own.1).trans h.row,h.own,a1e h.safe h.safeS (Zn.keeps k),h.safeS,a1e h.wait h.waitS (Zn.keeps k),h.waitS,a1e h.seen h.seenS (Zn.keeps k),h.seenS,⟨es,a7b he h.logS (Zn.keeps k) (Zn.keeps k)⟩,h.logS,a3s h.faults (Zn.keeps k),h.eps⟩
theorem CodeAt.lt{w:World}{F:Nat→Prop}{z:Nat→Nat}{g:Nat}{st:St}{vs vw vn vl vf:Value}(h:CodeAt w F z g st vs vw vn vl vf):g<w.heap.size:=(Array.getElem?_eq_some_iff.1 h.row).1
theorem CodeAt.wider{w:World}{F F':Nat→Prop}{z z':Nat→Nat}{g:Nat}{st:St}{vs vw vn vl vf:Value}(h:CodeAt w F z g st vs vw vn vl vf)(hF:∀b,F b→F' b)(hz:∀b,b<w.heap.size→z' b=z b):CodeAt w F' z' g st vs vw vn vl vf:=by
 obtain⟨es,he⟩:=h.log
 exact⟨h.row,⟨hF _ h.own.1,(hz _ h.lt).trans h.own.2⟩,h.safe,h.safeS.next h.safe hF hz,h.wait,h.waitS.next h.wait hF hz,h.seen,h.seenS.next h.seen hF hz,⟨es,he.mono fun b hb hT=>⟨hF b hT.1,(hz b hb).trans hT.2⟩⟩,h.logS.next he.own hF hz,h.faults.mono fun b hb hT=>⟨hF b hT.1,(hz b hb).trans hT.2⟩,h.eps⟩
theorem a8t{F T:Nat→Prop}{z:Nat→Nat}{k:Nat}{w w':World}(h:Touch T w w')(hT:∀b,T b→¬(F b∧z b=k)):Keeps (Zn F z k) w w':=h.keeps fun b hb hb2=>hT b hb2 hb
theorem CodeAt.change{w w':World}{F T:Nat→Prop}{z:Nat→Nat}{g:Nat}{st:St}{vs vw vn vl vf:Value}(h:CodeAt w F z g st vs vw vn vl vf)(ht:Touch T w w')(h1:∀b,T b→¬(F b∧z b=1))(h2:∀b,T b→¬(F b∧z b=2))(h3:∀b,T b→¬(F b∧z b=3))(h4:∀b,T b→¬(F b∧z b=4))(h6:∀b,T b→¬(F b∧z b=6))
  {ep ask:Int} {vf':Value} {bad:List Int} (hr:w'.heap[g]? = some (.cells #[.pointer (some ⟨g,0,none⟩),vs,vw,vn,.int .i64 ep,vl,.int .i64 ask,vf'] 104 (0,0))) (hf:FaultsIn (Zn F z 5) w' vf' bad ask) :
  CodeAt w' F z g { st with ep:=ep,asked:=ask,bad:=bad } vs vw vn vl vf':=by
 obtain⟨es,he⟩:=h.log
 exact⟨hr,h.own,a1e h.safe h.safeS (a8t ht h1),h.safeS,a1e h.wait h.waitS (a8t ht h2),h.waitS,a1e h.seen h.seenS (a8t ht h3),h.seenS,⟨es,a7b he h.logS (a8t ht h4) (a8t ht h6)⟩,h.logS,hf,h.eps⟩
theorem b0y:Keyed Tryz.prog 3:=int_keyed Tryz.underlying3
theorem a3y:Tryz.prog.underlying 102=some (.map 3 200):=by kernel_rfl
theorem b2c(w:World):(zeroValue 200).run Tryz.prog w = .ok (.agg #[]) w:=by kernel_rfl
theorem a6y{k:Int}(h:wf64 k):keyOf Tryz.prog 3 (.int .i64 k)=some (.int .i64 k):=keyOf_int_mk Tryz.underlying3 h
theorem c8w(k:Int):WideAt.IsKeyLit (.int .i64 k):=trivial
end dsk
namespace dsk
set_option maxRecDepth 100000
open Go.ChangeShapes Go.WideShapes Go.ChangeAt Go.RowKit
open rows
open sec
def s9:List Int:=9::List.replicate 31 0
end dsk
end Go.Proofs.YtiaapfijbidgnaaGreatDoor
