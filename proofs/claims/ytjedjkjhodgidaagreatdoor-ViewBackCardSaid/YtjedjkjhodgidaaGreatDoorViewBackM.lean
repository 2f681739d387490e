/- What ViewBack wants, part 13. -/
import Derived.Test.YtjedjkjhodgidaaGreatDoorViewBackA
import Derived.Test.YtjedjkjhodgidaaGreatDoorViewBackB
import Derived.Test.YtjedjkjhodgidaaGreatDoorViewBackL
import Derived.LaidEqlPtr
import Derived.Maps.AppendAt
import Derived.Lib.SliceRun
set_option linter.unusedVariables false
set_option linter.unusedSimpArgs false
namespace Go.Proofs.YtjedjkjhodgidaaGreatDoor
namespace dsk
set_option maxRecDepth 100000
open Go.ChangeShapes Go.WideShapes Go.ChangeAt Go.RowKit
open rows
open sec
open Go.Maps
theorem b5s:(Tryz.prog.info? 146).map (·.size)=some 8:=by kernel_rfl
theorem b0h:Tryz.prog.underlying 28=some (.pointer 146):=by kernel_rfl
theorem b2k(g:Nat)(w:World):(binOp .eql 28 (.pointer (some ⟨g,0,none⟩)) (.pointer (some ⟨g,0,none⟩))).run Tryz.prog w = .ok (.bool true) w:=by
 cases hq:Tryz.prog.info? 146 with
 | none=>have:=b5s;simp[hq] at this
 | some q=>exact run_eql_ptr_same w _ b0h hq
theorem b8b(g:Nat)(w:World):(binOp .eql 28 (.pointer none) (.pointer (some ⟨g,0,none⟩))).run Tryz.prog w = .ok (.bool false) w:=by
 have h:∀d:Nat,(Op.equalIn (d+1) 28 (.pointer none) (.pointer (some ⟨g,0,none⟩))).run Tryz.prog w = .ok false w:=fun d=>by
  simp[Op.equalIn,run_underlying b0h]
 simp only[binOp]
 simp[Op.equal,Op.maxDepth,h 9999]
theorem cmade(g:Nat)(w:World)(h:w.cell? ⟨g,0,none⟩=some (.pointer (some ⟨g,0,none⟩))) :
  Calls Tryz.prog 84 #[.pointer (some ⟨g,0,none⟩)] w fun e w'=>e = .returned (.bool true)∧w=w':=by
 have q1:=b2k g
 have q2:=b8b g
 go_enter Tryz.func84,Tryz.ntmps84
 go_wp2
 go_ret
 exact⟨rfl,rfl⟩
theorem b5e(w:World) :
  Calls Tryz.prog 84 #[.pointer none] w fun e w'=>e = .returned (.bool false)∧w=w':=by
 go_enter Tryz.func84,Tryz.ntmps84
 go_wp2
 go_ret
 exact⟨rfl,rfl⟩
theorem b9w(g:Nat)(w:World)(h:w.cell? ⟨g,0,none⟩=some (.pointer none)) :
  Calls Tryz.prog 84 #[.pointer (some ⟨g,0,none⟩)] w fun e w'=>e = .returned (.bool false)∧w=w':=by
 have q1:=b2k g
 have q2:=b8b g
 go_enter Tryz.func84,Tryz.ntmps84
 go_wp2
 go_ret
 exact⟨rfl,rfl⟩
theorem cpossible(n:Int)(w:World)(h:wf64 n) :
  Calls Tryz.prog 82 #[.int .i64 n] w fun e w'=>e = .returned (.bool (decide (1≤n∧n≤65)))∧w=w':=by
 have hx:=wf_i64 h
 obtain⟨d,hd⟩:∃d,decide (1≤n∧n≤65)=d:=⟨_,rfl⟩
 rw[hd]
 have HD:=ι hd
 clear hd
 by_cases h1:1≤n
 ·have q1:decide (1≤n)=true:=by simp;omega
  by_cases h2:n≤65
  ·have q2:decide (n≤65)=true:=by simp;omega
   go_enter Tryz.func82,Tryz.ntmps82
   go_wp2
   go_ret
   exact⟨a0e (by rw[← HD.out];simp;omega),rfl⟩
  ·have q2:decide (n≤65)=false:=by simp;omega
   go_enter Tryz.func82,Tryz.ntmps82
   go_wp2
   go_ret
   exact⟨a0e (by rw[← HD.out];simp;omega),rfl⟩
 ·have q1:decide (1≤n)=false:=by simp;omega
  go_enter Tryz.func82,Tryz.ntmps82
  go_wp2
  go_ret
  exact⟨a0e (by rw[← HD.out];simp;omega),rfl⟩
theorem chas(g:Nat)(n c:Nat)(p:Option Addr)(i:Int)(w:World)(h:w.cell? ⟨g,1,none⟩=some (.slice p n c))(hi:wf64 i)(hn:n≤1000) :
  Calls Tryz.prog 86 #[.pointer (some ⟨g,0,none⟩),.int .i64 i] w fun e w'=>e = .returned (.bool (decide (0≤i∧i<(n:Int))))∧w=w':=by
 have hx:=wf_i64 hi
 obtain⟨d,hd⟩:∃d,decide (0≤i∧i<(n:Int))=d:=⟨_,rfl⟩
 rw[hd]
 have HD:=ι hd
 clear hd
 by_cases h1:0≤i
 ·have q1:decide (0≤i)=true:=by simp;omega
  by_cases h2:i<(n:Int)
  ·have q2:decide (i<(n:Int))=true:=by simp;omega
   go_enter Tryz.func86,Tryz.ntmps86
   go_wp2
   go_ret
   exact⟨a0e (by rw[← HD.out];simp;omega),rfl⟩
  ·have q2:decide (i<(n:Int))=false:=by simp;omega
   go_enter Tryz.func86,Tryz.ntmps86
   go_wp2
   go_ret
   exact⟨a0e (by rw[← HD.out];simp;omega),rfl⟩
 ·have q1:decide (0≤i)=false:=by simp;omega
  go_enter Tryz.func86,Tryz.ntmps86
  go_wp2
  go_ret
  exact⟨a0e (by rw[← HD.out];simp;omega),rfl⟩
end dsk
namespace dsk
set_option maxRecDepth 100000
open Go.ChangeShapes Go.WideShapes Go.ChangeAt Go.RowKit
open rows
open sec
open Go.Maps
theorem b1s{S:Nat→Prop}{w:World}{v:Value}{bad:List Int}{asked:Int}(h:FaultsIn S w v bad asked)(ha:wf64 asked) :
  (Instr.lookup 144 v (.int .i64 asked) true).run Tryz.prog w = .ok (.tuple #[.agg #[],.bool (decide (asked∈bad))]) w:=by
 rcases h with⟨rfl,rfl⟩|⟨b,n,D,rfl,hS,hn,ho,hk⟩
 ·have:=Maps.look_nil true a8m a2f (a9r w) (a3r ha)
  simpa using this
 ·obtain⟨u,ps,hr,hu⟩:=ho.look_ok a8m a2f (a9r w) (unitElem_mk) (a3r ha)
  obtain⟨rfl,_⟩:=unitElem_inv hu
  rw[hr,hk asked ha (Int.le_refl _)]
theorem a5k{S:Nat→Prop}{w w':World}{b:Nat}(h:w.mapTurned w' b)(hS:S b):Touch S w w':=by
 have g:=h.grown
 exact⟨g.os,g.tape,g.output,g.size,fun k hk hn=>g.block k hk (fun e=>hn (by cases e;exact hS))⟩
theorem b1j{S:Nat→Prop}{w:World}{v:Value}{bad:List Int}{asked:Int}(h:FaultsIn S w v bad asked)(ha:wf64 asked)(ty:TypeId) :
  ∃w',(Builtin.delete_ #[144,3] ty #[v,.int .i64 asked]).run Tryz.prog w = .ok (.tuple #[]) w'∧FaultsIn S w' v bad (asked+1)∧Touch S w w':=by
 rcases h with⟨rfl,rfl⟩|⟨b,n,D,rfl,hS,hn,ho,hk⟩
 ·exact⟨w,Maps.drop_nil a8m a2f (a3r ha) ty,Or.inl ⟨rfl,rfl⟩,Touch.refl _ _⟩
 ·obtain⟨w',hr,ho',ht⟩:=ho.drop a8m a2f (a3r ha) ty
  refine⟨w',hr,Or.inr ⟨b,n,_,rfl,hS,hn,ho',fun k hw hle => ?_⟩,a5k ht hS⟩
  rw[Maps.has_del_other (by intro e;injection e;omega)]
  exact hk k hw (by omega)
theorem b0r{ops:Array Oper}{S:World→Prop}{op:Oper}{a:Act}(hw:Region.wanted op (yielded ops a.tmps)=true)(t:TypeId)(m x:Operand)(ho:op.op = .lookup t m x true)(mv xv:Value)(hm:a.eval m=mv)(hx:a.eval x=xv)(v:Value)
  (hr:∀w,S w→(Instr.lookup t mv xv true).run Tryz.prog w = .ok v w):YieldsIf Tryz.prog ops S op v a :=
 .inl ⟨hw,fun w hS=>by
  unfold execOp
  simp only[ho,hm,hx,Sem.run_bind,hr w hS,Result.andThen_ok]
  rfl⟩
theorem b6q:Tryz.prog.underlying 144=some (.map 3 192):=a2f
theorem a6n:(Tryz.prog.info? 192).map (·.zero)=some (some (.agg ([]:List Value).toArray)):=by kernel_rfl
theorem b5t:(Tryz.prog.info? 192).map (·.size)=some 0:=by kernel_rfl
theorem a5u{w:World}{ops:Array Oper}{o:Oper}{a:Act}{K:Act→World→Prop}{Q:Exit→Act→World→Prop}{F:Prop}(hw:Region.wanted o (yielded ops a.tmps)=true)(x y:Operand)(ho:o.op = .store 192 x y)
  (g:Nat) (hx:a.eval x = .pointer (some ⟨g,0,none⟩)) (hy:a.eval y = .agg #[]) (hg:w.heap[g]? = some (.cells #[] 192 (0,0)))
  (h:∀w',Below g w w'→K (a.put o.dst undef) w'):if Region.wanted o (yielded ops a.tmps)=true then Oper.wp Tryz.prog o a w K Q else F:=by
 rw[if_pos hw]
 refine wp_store_row 192 x y ho g #[] hx hy 192 _ hg (by rw[b5t];simp) (by simp) (by simp) ?_
 exact h _ ((Below.refl g w).trans ⟨rfl,rfl,rfl,by simp[World.setRow],fun k hk=>setRow_other w g k _ (by omega)⟩)
theorem b1f{S:Nat→Prop}{w:World}{ops:Array Oper}{o:Oper}{a:Act}{K:Act→World→Prop}{Q:Exit→Act→World→Prop}{F:Prop}(hw:Region.wanted o (yielded ops a.tmps)=true)(m x:Operand)(ho:o.op=Op.call { callee:=Callee.builtin Builtin.delete,args := #[m,x],argTypes := #[144,3] })
  {v:Value} {asked:Int} (hm:a.eval m=v) (hx:a.eval x = .int .i64 asked) {bad:List Int} (h:FaultsIn S w v bad asked) (ha:wf64 asked) (hK:∀w',FaultsIn S w' v bad (asked+1)→Touch S w w'→K (a.put o.dst (.tuple #[])) w'):if Region.wanted o (yielded ops a.tmps)=true then Oper.wp Tryz.prog o a w K Q else F:=by
 rw[if_pos hw]
 obtain⟨w',hr,h1,h2⟩:=b1j h ha o.type
 unfold Oper.wp
 simp[execOp,ho,resolve,invoke,builtin,hm,hx,hr,Result.andThen]
 exact hK w' h1 h2
def CountDone(F:Nat→Prop)(z:Nat→Nat)(g:Nat)(st:St)(vs vw vn vl vf:Value)(w:World)(e:Ending)(w':World):Prop :=
 e = .returned (.bool (asks st))∧CodeAt w' F z g st.asked1 vs vw vn vl vf∧Touch (fun b=>F b∧(z b=0∨z b=5)) w w'
set_option maxHeartbeats 1600000 in
theorem ccount(F:Nat→Prop)(z:Nat→Nat)(g:Nat)(st:St)(vs vw vn vl vf:Value)(w:World)(h:CodeAt w F z g st vs vw vn vl vf)(ha:0≤st.asked∧st.asked≤1000) :
  Calls Tryz.prog 85 #[.pointer (some ⟨g,0,none⟩)] w (CountDone F z g st vs vw vn vl vf w):=by
 have hwf:wf64 st.asked:=WalkArith.wf_i64 (by omega)
 obtain⟨a0,a1⟩:=ha
 have HA:=ι h
 have HW:=ι hwf
 have hlt:=h.lt
 have C6:=ι (a0c h.row 6 _ rfl)
 have C7:=ι (a0c h.row 7 _ rfl)
 have HFL:=ι h.faults
 obtain⟨q,hq⟩:∃q,decide (st.asked∈st.bad)=q:=⟨_,rfl⟩
 have HQ:Hid (asks st=q):=ι hq
 have HLK:Hid (∀w',Below w.heap.size w w'→(Instr.lookup 144 vf (.int .i64 st.asked) true).run Tryz.prog w' = .ok (.tuple #[.agg #[],.bool q]) w'):=ι fun w' hb=>by
  rw[← hq]
  exact b1s (a2s h.faults (Keeps.of_below hb)) hwf
 clear h hq hwf
 go_enter Tryz.func85,Tryz.ntmps85
 go_wp2_with fail
 have h0:=Below.refl w.drew.heap.size w.drew
 refine wp_region_held_drew (S:=ext w.drew) (by kernel_rfl) (Below.refl _ _) (fun hH0 => ?_)
 refine tk 0 rfl ?_
 refine tk 1 rfl ?_
 refine tk 2 rfl ?_
 refine tkv 3 rfl (a0o (by rfl) 144 _ b6q rfl _ rfl g 7 rfl vf (fun w' hw=>((a0h hw).cell (p:=⟨g,7,none⟩) hlt).trans C7.out)) ?_
 refine tk 4 rfl ?_
 refine tk 5 rfl ?_
 refine tk 6 rfl ?_
 refine tkv 7 rfl (a0o (by rfl) 3 _ a2w rfl _ rfl g 6 rfl (.int .i64 st.asked) (fun w' hw=>((a0h hw).cell (p:=⟨g,6,none⟩) hlt).trans C6.out)) ?_
 refine tkv 8 rfl (b0r (by rfl) 144 _ _ rfl vf (.int .i64 st.asked) (by rfl) (by rfl) (.tuple #[.agg #[],.bool q]) (fun w' hw=>HLK.out w' (a0h hw))) ?_
 refine tk 9 rfl ?_
 refine tk 10 rfl ?_
 refine tk 11 rfl ?_
 refine rd 12 rfl (fun K hK => ?_)
 refine a6y a6n (by rfl) rfl ?_
 intro gx v1 hgx hrx hb1
 have h1:=a0a h0 hb1
 have HX:=ι hrx
 refine hK.out _ _ ?_ (fun hHeld => ?_)
 ·exact h1
 clear hK K hrx
 try simp only[Act.put,List.setIfInBounds_toArray,List.set_cons_zero,List.set_cons_succ]
 refine rd 13 rfl (fun K hK => ?_)
 refine a5u (by rfl) _ _ (by rfl) gx (by rfl) (by rfl) HX.out ?_
 intro v2 hb2
 have h2:=h1.trans (hb2.mono hgx)
 refine hK.out _ _ ?_ (fun hHeld => ?_)
 ·exact h2
 clear hK K
 try simp only[Act.put,List.setIfInBounds_toArray,List.set_cons_zero,List.set_cons_succ]
 refine tk 14 rfl ?_
 refine wpAnyH_done (by kernel_rfl) ?_ _
 have HC:=ι (a1d HA.out (Keeps.of_below (a0h h2)))
 have HB2:=ι (a0h h2)
 have hl2:=HC.out.lt
 have D6:=ι (a0c HC.out.row 6 _ rfl)
 have D7:=ι (a0c HC.out.row 7 _ rfl)
 clear h0 h1 h2 hb1 hb2 hgx HX C6 C7 hH0 HLK
 have hdist:∀b,Zn F z 5 b→b≠g:=fun b hb e=>by have h1:=hb.2;have h2:=HC.out.own.2;rw[e,h2] at h1;omega
 go_wp2_with fail
 have t0:Touch (Zn F z 5) v2.drew v2.drew:=Touch.refl _ _
 refine wp_region_held_drew (S:=Touch (Zn F z 5) v2.drew) (by kernel_rfl) (Touch.refl _ _) (fun hH0 => ?_)
 refine tk 0 rfl ?_
 refine tk 1 rfl ?_
 refine tk 2 rfl ?_
 refine tkv 3 rfl (a0o (by rfl) 144 _ b6q rfl _ rfl g 7 rfl vf (fun w' hw=>(hw.drewL.cell (p:=⟨g,7,none⟩) hl2 (fun e=>hdist _ e rfl)).trans D7.out)) ?_
 refine tk 4 rfl ?_
 refine tk 5 rfl ?_
 refine tk 6 rfl ?_
 refine tkv 7 rfl (a0o (by rfl) 3 _ a2w rfl _ rfl g 6 rfl (.int .i64 st.asked) (fun w' hw=>(hw.drewL.cell (p:=⟨g,6,none⟩) hl2 (fun e=>hdist _ e rfl)).trans D6.out)) ?_
 refine rd 8 rfl (fun K hK => ?_)
 refine b1f (by rfl) _ _ rfl (by rfl) (by rfl) (a2s HC.out.faults (Keeps.of_below ((Below.refl _ v2).drew))) HW.out ?_
 intro v3 hf3 ht3
 have HF3:=ι hf3
 have HT3:=ι ht3
 clear hf3
 have h1:=ht3
 refine hK.out _ _ ?_ (fun hHeld => ?_)
 ·exact ht3
 clear hK K
 try simp only[Act.put,List.setIfInBounds_toArray,List.set_cons_zero,List.set_cons_succ]
 refine wpAnyH_done (by kernel_rfl) ?_ _
 have hl3:g<v3.heap.size:=Nat.lt_of_lt_of_le hl2 HT3.out.size
 have R3:Hid (v3.heap[g]? = some (.cells #[.pointer (some ⟨g,0,none⟩),vs,vw,vn,.int .i64 st.ep,vl,.int .i64 st.asked,vf] 146 (0,0))):=ι ((HT3.out.drewL.block g hl2 (fun e=>hdist _ e rfl)).trans HC.out.row)
 have e6:=a0c R3.out 6 (.int .i64 st.asked) rfl
 have z6:=a0j R3.out 6
 clear hH0 t0 D6 D7 ht3
 go_wp2_with fail
 have hz0:z g=0:=HC.out.own.2
 have hF0:F g:=HC.out.own.1
 have T2:Touch (fun b=>F b∧(z b=0∨z b=5)) v2 (v3.setCell ⟨g,6,none⟩ (.int .i64 (st.asked+1))):=Touch.setCell (HT3.out.drewL.mono fun b hb=>⟨hb.1,Or.inr hb.2⟩) ⟨g,6,none⟩ ⟨hF0,Or.inl hz0⟩ _
 have hfin:CodeAt (v3.setCell ⟨g,6,none⟩ (.int .i64 (st.asked+1))) F z g st.asked1 vs vw vn vl vf:=HC.out.change (st:=st) T2 (fun b hb h=>by have h1:=hb.2;have h2:=h.2;omega) (fun b hb h=>by have h1:=hb.2;have h2:=h.2;omega) (fun b hb h=>by have h1:=hb.2;have h2:=h.2;omega) (fun b hb h=>by have h1:=hb.2;have h2:=h.2;omega) (fun b hb h=>by have h1:=hb.2;have h2:=h.2;omega)
  (a0f R3.out _) (a2s HF3.out (Keeps.set hdist _))
 have hT:Touch (fun b=>F b∧(z b=0∨z b=5)) w (v3.setCell ⟨g,6,none⟩ (.int .i64 (st.asked+1))):=(Touch.of_below HB2.out).trans T2
 go_ret
 exact⟨a0e HQ.out.symm,hfin,hT⟩
end dsk
namespace dsk
set_option maxRecDepth 100000
open Go.ChangeShapes Go.WideShapes Go.ChangeAt Go.RowKit
open rows
open sec
open Go.Maps
theorem b5n{t e:TypeId}{sz by_:Nat}{z:Value}(E:Elem t e sz by_ z){w:World}(ty:TypeId)(v:Value)(n:Nat)(cs:List Value)(hown:Own w 0 e sz v n cs)
  (y:Value) (m:Nat) (ds:List Value) (hrd:Rd w sz y m ds) (h1:∀u∈ds,u.oneCell'=true) (hl:n+m≤1000000) :
  ∃p c w',(Builtin.append_ #[t,t] ty #[v,y]).run Tryz.prog w = .ok (.slice p (n+m) c) w'∧Own w' 0 e sz (.slice p (n+m) c) (n+m) (cs++ds)∧Touch (fun k=>v.ownBlock=some k) w w'∧∀k,(Value.slice p (n+m) c).ownBlock=some k→v.ownBlock=some k∨(w.heap.size≤k∧k<w'.heap.size):=by
 obtain⟨i0,hi,hz0,hz1,hz2⟩:=info_parts E.info
 have hby:(n+m) * by_≤140737488355328:=by
  have:(n+m) * by_≤1000000 * 1000:=Nat.mul_le_mul hl E.few
  omega
 have key:∀(ad:Addr) (c:Nat),y = .slice (some ad) m c→ds.length=m * sz→(∀j u,ds[j]? = some u→w.cell? (ad.add j)=some u)→∃p c w',(Builtin.append_ #[t,t] ty #[v,y]).run Tryz.prog w = .ok (.slice p (n+m) c) w'∧Own w' 0 e sz (.slice p (n+m) c) (n+m) (cs++ds)∧Touch (fun k=>v.ownBlock=some k) w w'∧∀k,(Value.slice p (n+m) c).ownBlock=some k→v.ownBlock=some k∨(w.heap.size≤k∧k<w'.heap.size):=by
  intro ad c hy hm hc
  subst hy
  obtain⟨v',w',hr,h2,h3,_,h5⟩:=run_append_own_at (P:=Tryz.prog) w 0 t ty e i0 z sz by_ E.und hi hz0 hz1 hz2 E.zs E.pos v n cs hown ad m c ds hm hc h1 (by unfold maxLen;omega) hby (Nat.zero_le _)
  obtain⟨p,c',rfl,h4,_⟩:=b7e hown (Nat.zero_le _) h2 h3
  refine⟨p,c',w',hr,h4,⟨h3.os,h3.tape,h3.output,h3.size,fun k hk hn=>h3.block k hk (fun e=>hn e.symm)⟩,fun k hk => ?_⟩
  rcases h5 with h5|h5
  ·exact Or.inl (h5.symm.trans hk)
  ·have:w.heap.size=k:=Option.some.inj (h5.symm.trans hk)
   exact Or.inr ⟨by omega,(a1z h4 hk).2⟩
 rcases hrd with⟨p,cap,rfl,rfl,rfl,hp⟩|⟨b,off,cap,rfl,h2,h2a,h2b,h3,h4,h5⟩
 ·cases p with
  | none =>
   obtain rfl:=hp rfl
   have hr:=run_append_owned_none (P:=Tryz.prog) (w:=w) 0 t ty e i0 sz E.und hi v n cs hown
   obtain⟨p,c,hv⟩:=hown.slice
   subst hv
   exact⟨p,c,w,hr,by rw[List.append_nil];exact hown,Touch.refl _ w,fun k hk=>Or.inl hk⟩
  | some ad=>exact key ad cap rfl (by simp) (by simp)
 ·refine key ⟨b,off,none⟩ cap rfl h4 ?_
  intro j u hj
  rw[Addr.add_mid]
  exact h5 j u hj
theorem a7s{t e:TypeId}{sz by_:Nat}{z:Value}(E:Elem t e sz by_ z){w:World}{ops:Array Oper}{rest:List Oper}{o:Oper}{a:Act}{Q:Exit→Act→World→Prop}(hgd:o.guard=none)(s x:Operand)
  (ho:o.op = .call { callee := .builtin .append,args := #[s,x],argTypes := #[t,t] })
  (v:Value) (n:Nat) (cs:List Value) (hs:a.eval s=v) (hown:Own w 0 e sz v n cs) (y:Value) (m:Nat) (ds:List Value) (hx:a.eval x=y) (hrd:Rd w sz y m ds) (h1:∀u∈ds,u.oneCell'=true) (hl:n+m≤1000000)
  (h:∀p c w',Own w' 0 e sz (.slice p (n+m) c) (n+m) (cs++ds)→Touch (fun k=>v.ownBlock=some k) w w'→(∀k,(Value.slice p (n+m) c).ownBlock=some k→v.ownBlock=some k∨(w.heap.size≤k∧k<w'.heap.size))→wpList Tryz.prog ops Q rest (a.put o.dst (.slice p (n+m) c)) w'):wpList Tryz.prog ops Q (o::rest) a w:=by
 refine wpList_plain hgd fun K hK => ?_
 obtain⟨p,c,w',hr,h2,h3,h4⟩:=b5n E (w:=w) o.type v n cs hown y m ds hrd h1 hl
 unfold Oper.wp
 simp[execOp,ho,resolve,invoke,builtin,hs,hx,hr,Result.andThen]
 exact hK _ _ (h p c w' h2 h3 h4)
theorem b2g{t e:TypeId}{sz by_:Nat}{z:Value}(E:Elem t e sz by_ z){w:World}{ops:Array Oper}{o:Oper}{a:Act}{K:Act→World→Prop}{Q:Exit→Act→World→Prop}{F:Prop}(hw:Region.wanted o (yielded ops a.tmps)=true)(s x:Operand)
  (ho:o.op = .call { callee := .builtin .append,args := #[s,x],argTypes := #[t,t] })
  (v:Value) (n:Nat) (cs:List Value) (hs:a.eval s=v) (hown:Own w 0 e sz v n cs) (y:Value) (m:Nat) (ds:List Value) (hx:a.eval x=y) (hrd:Rd w sz y m ds) (h1:∀u∈ds,u.oneCell'=true) (hl:n+m≤1000000)
  (h:∀p c w',Own w' 0 e sz (.slice p (n+m) c) (n+m) (cs++ds)→Touch (fun k=>v.ownBlock=some k) w w'→(∀k,(Value.slice p (n+m) c).ownBlock=some k→v.ownBlock=some k∨(w.heap.size≤k∧k<w'.heap.size))→K (a.put o.dst (.slice p (n+m) c)) w') :
  if Region.wanted o (yielded ops a.tmps)=true then Oper.wp Tryz.prog o a w K Q else F:=by
 rw[if_pos hw]
 obtain⟨p,c,w',hr,h2,h3,h4⟩:=b5n E (w:=w) o.type v n cs hown y m ds hrd h1 hl
 unfold Oper.wp
 simp[execOp,ho,resolve,invoke,builtin,hs,hx,hr,Result.andThen]
 exact h p c w' h2 h3 h4
theorem c0c{T T':Nat→Prop}{w w':World}{v v' t:Value}{es:List Ev}{vs:List Value}{ev:Ev}(h:LogIn T w v es vs)(k:Keeps T w w')(hT:∀b,b<w.heap.size→T b→T' b)
  (own:Own w' 0 149 38 v' (es.length+1) (((es.zip vs).map fun x=>evC x.1 x.2).flatten++evC ev t)) (ht:∃p c,t = .slice p ev.2.2.length c∧Rd w' 2 (.slice p ev.2.2.length c) ev.2.2.length (tagsC ev.2.2)∧InS T' (.slice p ev.2.2.length c)):LogIn T' w' v' (es++[ev]) (vs++[t]):=by
 refine⟨by simp[h.len],?_,fun i hi => ?_⟩
 ·have hz:(es++[ev]).zip (vs++[t])=es.zip vs++[(ev,t)]:=by rw[List.zip_append h.len.symm];rfl
  rw[hz,List.map_append,List.flatten_append]
  simpa using own
 ·by_cases hlt:i<es.length
  ·obtain⟨p,c,h1,h2,h3⟩:=(h.mono hT).tags i hlt
   refine⟨p,c,?_,?_,?_⟩
   ·rw[List.getElem_append_left hlt,List.getElem?_append_left (by rw[h.len];exact hlt)];exact h1
   ·rw[List.getElem_append_left hlt]
    obtain⟨p',c',h1',h2',h3'⟩:=h.tags i hlt
    have:=h1.symm.trans h1'
    cases this
    exact Rd.kept h2' h3' k
   ·rw[List.getElem_append_left hlt];exact h3
  ·have:i=es.length:=by simp at hi;omega
   subst this
   rw[List.getElem_append_right (Nat.le_refl _),List.getElem?_append_right (by rw[h.len];exact Nat.le_refl _)]
   obtain⟨p,c,h1,h2,h3⟩:=ht
   exact⟨p,c,by simp[h.len,h1],by simpa using h2,by simpa using h3⟩
end dsk
namespace dsk
set_option maxRecDepth 100000
open Go.ChangeShapes Go.WideShapes Go.ChangeAt Go.RowKit
open rows
open sec
open Go.Maps
theorem a6x{F:Nat→Prop}{z:Nat→Nat}{g:Nat}{st:St}{vs vw vn vl vf:Value}{w w':World}{r:Int}(h:CodeAt w' F z g st.asked1 vs vw vn vl vf)(ht:Touch (fun b=>F b∧(z b=0∨z b=5)) w w') :
  CodeDone CA F (.pointer (some ⟨g,0,none⟩)) w (r,st.asked1) (.returned (.int .i64 r)) w' :=
 ⟨rfl,⟨z,g,vs,vw,vn,vl,vf,rfl,h.wider (fun b hb=>Or.inl hb) fun _ _=>rfl⟩,ht.mono fun b hb=>hb.1⟩
theorem zne{F:Nat→Prop}{z:Nat→Nat}{i j b c:Nat}(h:Zn F z i b)(k:Zn F z j c)(hij:i≠j):b≠c:=fun e=>hij (by rw[← h.2,← k.2,e])
end dsk
namespace dsk
set_option maxRecDepth 100000
open Go.ChangeShapes Go.WideShapes Go.ChangeAt Go.RowKit
open rows
open sec
open Go.Maps
def CloneDone(e0:TypeId)(sz n:Nat)(cs:List Value)(w:World)(e:Ending)(w':World):Prop:=∃p' c',e = .returned (.slice p' n c')∧Own w' w.heap.size e0 sz (.slice p' n c') n cs∧Below w.heap.size w w'
theorem a6r(p:Option Addr)(n c:Nat)(cs:List Value)(w:World)(h:Rd w 32 (.slice p n c) n cs)(h1:∀u∈cs,u.oneCell'=true)(hn:n≤1000) :
  Calls Tryz.prog 83 #[.slice p n c] w (CloneDone 74 32 n cs w):=by
 cases p with
 | none =>
  have h0:n=0∧c=0∧cs=[]:=by
   rcases h with⟨p',cap',e1,e2,e3,e4⟩|⟨b,off,cap',e1,_⟩
   ·cases e1;exact⟨e2,e4 rfl,e3⟩
   ·cases e1
  obtain⟨rfl,rfl,rfl⟩:=h0
  have q22:∀(w:World) (a:Option Addr) (n c n' c':Nat),(binOp .eql 22 (.slice a n c) (.slice none n' c')).run Tryz.prog w = .ok (.bool a.isNone) w:=fun w a n c n' c'=>Lib.run_eql_slice_nil w _ _ a n c n' c' Tryz.underlying22
  go_enter Tryz.func83,Tryz.ntmps83
  go_wp2
  go_ret
  exact⟨none,0,rfl,a2b _ _ _ _,Below.refl _ _⟩
 | some a =>
  have H:=ι h
  have H1:=ι h1
  clear h h1
  have q22:∀(w:World) (a:Option Addr) (n c n' c':Nat),(binOp .eql 22 (.slice a n c) (.slice none n' c')).run Tryz.prog w = .ok (.bool a.isNone) w:=fun w a n c n' c'=>Lib.run_eql_slice_nil w _ _ a n c n' c' Tryz.underlying22
  go_enter Tryz.func83,Tryz.ntmps83
  go_wp2_with (at_builtin;refine a5s elem_secs rfl (.tmp 5) (.tmp 6) rfl w.heap.size _ 0 [] rfl (b3k w _ _ (Nat.le_refl _)) _ n cs rfl (H.out.later (a0b (Below.refl _ _) _)) H1.out (by omega) (by rw[size_alloc];omega) ?_;intro pa ca wa ho hb;rw[Nat.zero_add,List.nil_append] at ho;have HO:=ι ho;have HB:=ι hb;clear ho hb)
  go_ret
  exact⟨pa,ca,by simp,HO.out,(a0b (Below.refl _ w) _).trans HB.out⟩
end dsk
namespace dsk
set_option maxRecDepth 100000
open Go.ChangeShapes Go.WideShapes Go.ChangeAt Go.RowKit
open rows
open sec
open Go.Maps
theorem a8l(i:Nat):∀(ws:List Wr) (safe:List (List Int)),(∀x∈ws,0≤x.pos)→i<safe.length→(outOf (fun _=>true) ws safe)[i]? = some (lastOf (i:Int) (safe.getD i []) ws)
 | [],safe,_,h=>by simp[outOf,lastOf,h]
 | x::ws,safe,hp,h=>by
  have h0:=hp x (List.mem_cons_self ..)
  have ih:=a8l i ws (safe.set x.pos.toNat x.s) (fun y hy=>hp y (List.mem_cons_of_mem _ hy)) (by simpa using h)
  have e1:outOf (fun _=>true) (x::ws) safe=outOf (fun _=>true) ws (safe.set x.pos.toNat x.s):=by simp[outOf,outStep]
  have e2:lastOf (i:Int) (safe.getD i []) (x::ws)=lastOf (i:Int) (if x.pos=i then x.s else safe.getD i []) ws:=rfl
  rw[e1,ih,e2]
  congr 2
  rw[List.getD_eq_getElem?_getD,List.getElem?_set]
  by_cases hpi:x.pos=(i:Int)
  ·rw[if_pos hpi,if_pos (by omega),if_pos (by omega)];rfl
  ·rw[if_neg hpi,if_neg (by omega),List.getD_eq_getElem?_getD]
theorem a0s(st:St):(seenOf st).length=st.safe.length:=a9d _ _ _
theorem a2n{st:St}(hf:st.fine):Secs (seenOf st):=a7k _ _ _ hf.few.ss hf.few.ws
set_option maxHeartbeats 1600000 in
theorem cread(w:World)(F:Nat→Prop)(d:Value)(st:St)(i:Int)(h:CA w F d st)(hf:st.fine)(hi:wf64 i):Calls Tryz.prog 53 #[d,.int .i64 i] w (Rt w (readR st i)):=by
 obtain⟨z,g,vs,vw,vn,vl,vf,rfl,h⟩:=h
 obtain⟨ps,cs,hvs⟩:=h.safe.slice
 subst hvs
 obtain⟨pn,cn,hvn⟩:=h.seen.slice
 subst hvn
 have hlt:=h.lt
 have hn1:=hf.n1
 have hlw:∀w',Below w.heap.size w w'→w'.heap[g]? = w.heap[g]? := fun w' hb=>hb.block g hlt
 have HM:=ι fun w' (hb:Below w.heap.size w w')=>cmade g w' (a0c ((hlw w' hb).trans h.row) 0 _ rfl)
 have HH:=ι fun w' (hb:Below w.heap.size w w')=>chas g st.safe.length cs ps i w' (a0c ((hlw w' hb).trans h.row) 1 _ rfl) hi (by omega)
 have hb0:=a0b (Below.refl w.heap.size w) (.cells (u8s zero32).toArray 74)
 rw[← a0u] at hb0
 have HB:=ι hb0
 have C3:=ι fun w' (hb:Below w.heap.size w w')=>a0c ((hlw w' hb).trans h.row) 3 (.slice pn st.safe.length cn) rfl
 by_cases hin:0≤i∧i<(st.safe.length:Int)
 ·have hr:readR st i = .tuple #[agg (readOf st i.toNat),.int .i64 0]:=if_pos hin
  rw[hr]
  rw[decide_eq_true hin] at HH
  obtain⟨k,rfl⟩:∃k:Nat,i=(k:Int):=⟨i.toNat,by omega⟩
  have hk:k<st.safe.length:=by omega
  have hss:=a2n hf
  obtain⟨gn,rfl⟩:=b3m h.seen (by omega)
  obtain⟨bs,os,hbo,hcs1,hcs2,hbs,hsl,HSR⟩:=row_at h.seen.rd hss hk
  cases hbo
  have hsk:=HSR k (by rw[a0s];exact hk)
  have e:=a8l k st.wait st.safe (fun x hx=>(hf.pos x hx).1) hk
  have e2:(seenOf st)[k]'(by rw[a0s];exact hk)=readOf st k:=by
   have h1:some ((seenOf st)[k]'(by rw[a0s];exact hk))=some (readOf st k):=(List.getElem?_eq_getElem _).symm.trans e
   exact Option.some.inj h1
  rw[e2] at hsk
  have hsec:Sec (readOf st k):=by rw[← e2];exact hss _ (List.getElem_mem (l:=seenOf st) (by rw[a0s];exact hk))
  rw[Nat.zero_add] at hsk
  have HSK:=ι (Rd.rangeLater hsk hbs HB.out)
  have HSC:=ι hsec
  rw[Int.toNat_natCast]
  have hsl2:=hsl
  clear hsl e2 e HSR hsk hsec hss
  generalize readOf st k=s at *
  have hk1:(k:Int)<st.safe.length:=by omega
  generalize st.safe.length=n at *
  clear h hf hlw hr hin hsl2
  go_enter Tryz.func53,Tryz.ntmps53
  go_wp2_with (first|(go_at_call 84;refine(HM.out _ HB.out).mono ?_;rintro e w0 ⟨rfl,rfl⟩)|(go_at_call 86;refine(HH.out _ HB.out).mono ?_;rintro e w0 ⟨rfl,rfl⟩;have c3:=C3.out _ HB.out)|(refine b1w rfl (.tmp 21) rfl gn (k * 32) rfl s HSC.out.1 HSK.out ?_)|(refine a0g rfl _ _ rfl rfl w.heap.size s zero32 rfl rfl HSC.out.1 (by decide) (a1c w) ?_;intro w2 hA hB2 _;have A2:=ι hA;clear hA))
  exact a1m rfl w.heap.size _ _ rfl rfl HSC.out.1 A2.out rfl ⟨rfl,HB.out.trans hB2⟩
 ·have hr:readR st i = .tuple #[agg zero32,.int .i64 1]:=if_neg hin
  rw[hr]
  rw[decide_eq_false hin] at HH
  clear h hf hlw hr
  generalize st.safe.length=n at *
  go_enter Tryz.func53,Tryz.ntmps53
  go_wp2_with (first|(go_at_call 84;refine(HM.out _ HB.out).mono ?_;rintro e w0 ⟨rfl,rfl⟩)|(go_at_call 86;refine(HH.out _ HB.out).mono ?_;rintro e w0 ⟨rfl,rfl⟩)|(refine a0g rfl _ _ rfl rfl w.heap.size zero32 zero32 rfl (congrArg Value.agg a0u) (by decide) (by decide) (a1c w) ?_;intro w2 hA hB2 _;have A2:=ι hA;clear hA))
  exact a1m rfl w.heap.size _ _ rfl rfl (by decide) A2.out rfl ⟨rfl,HB.out.trans hB2⟩
end dsk
namespace dsk
set_option maxRecDepth 100000
open Go.ChangeShapes Go.WideShapes Go.ChangeAt Go.RowKit
open rows
open sec
open Go.Maps
set_option maxHeartbeats 1600000 in
theorem a8w(w:World)(F:Nat→Prop)(d:Value)(st:St)(i:Int)(s:List Int)(k id:Int)(h:CA w F d st)(hf:st.fine)(hi:wf64 i)(hn:¬(0≤i∧i<(st.safe.length:Int))∨asks st=true) :
  Calls Tryz.prog 37 #[d,.int .i64 i,agg s,.agg #[.int .i64 k,.int .i64 id]] w (CodeDone CA F d w (if 0≤i∧i<(st.safe.length:Int) then 3 else 1,st.asked1)):=by
 obtain⟨z,g,vs,vw,vn,vl,vf,rfl,h⟩:=h
 obtain⟨W,hW⟩:∃W,W=(w.alloc (.cells (u8s s).toArray 74)).alloc (.cells #[.int .i64 k,.int .i64 id] 76):=⟨_,rfl⟩
 have hbW:Below w.heap.size w W:=by rw[hW];exact a0b (a0b (Below.refl _ _) _) _
 have hA:=a1d h (Keeps.of_below hbW)
 obtain⟨ps,cs,hvs⟩:=h.safe.slice
 subst hvs
 have HM:=ι (cmade g W (a0c hA.row 0 _ rfl))
 have HF:=ι (ccount F z g st _ vw vn vl vf W hA ⟨hf.few.as0,by have:=hf.few.as1;omega⟩)
 unfold CountDone at HF
 have hn1:=hf.n1
 have HH:=ι fun w' (h':CodeAt w' F z g st.asked1 (.slice ps st.safe.length cs) vw vn vl vf)=>chas g st.safe.length cs ps i w' (a0c h'.row 1 _ rfl) hi (by omega)
 have HW:=ι hW
 have HBW:=ι hbW
 generalize st.safe.length=n at *
 by_cases hin:0≤i∧i<(n:Int)
 ·have ha:asks st=true:=by rcases hn with h|h;exact absurd hin h;exact h
  rw[if_pos hin]
  rw[ha] at HF
  rw[decide_eq_true hin] at HH
  clear h hA hf hW hbW hn hin ha hi
  go_enter Tryz.func37,Tryz.ntmps37
  go_wp2_with fail
  rw[← HW.out]
  refine HM.out.mono ?_
  rintro e w0 ⟨rfl,rfl⟩
  go_wp2_with (first|(go_at_call 85;refine HF.out.mono ?_;rintro e w1 ⟨rfl,hc,ht⟩;have HC:=ι hc;have HT:=ι ht;clear hc ht)|(go_at_call 86;refine(HH.out _ HC.out).mono ?_;rintro e w2 ⟨rfl,rfl⟩))
  have hfin:CodeDone CA F (.pointer (some ⟨g,0,none⟩)) w (3,st.asked1) (.returned (.int .i64 3)) w1:=by
   obtain⟨a1,⟨z2,g2,b1,b2,b3,b4,b5,e1,a2⟩,a3⟩:=a6x (r:=3) HC.out HT.out
   have hs:=HBW.out.size
   refine⟨rfl,⟨z2,g2,b1,b2,b3,b4,b5,e1,a2.wider (fun b hb2 => ?_) (fun _ _=>rfl)⟩,(Touch.of_below HBW.out).trans a3⟩
   rcases hb2 with h|⟨h4,h5⟩
   ·exact Or.inl h
   ·exact Or.inr ⟨by omega,h5⟩
  go_ret
  exact hfin
 ·rw[if_neg hin]
  rw[decide_eq_false hin] at HH
  clear h hA hf hW hbW hn hin hi
  go_enter Tryz.func37,Tryz.ntmps37
  go_wp2_with fail
  rw[← HW.out]
  refine HM.out.mono ?_
  rintro e w0 ⟨rfl,rfl⟩
  go_wp2_with (first|(go_at_call 85;refine HF.out.mono ?_;rintro e w1 ⟨rfl,hc,ht⟩;have HC:=ι hc;have HT:=ι ht;clear hc ht)|(go_at_call 86;refine(HH.out _ HC.out).mono ?_;rintro e w2 ⟨rfl,rfl⟩))
  have hfin:CodeDone CA F (.pointer (some ⟨g,0,none⟩)) w (1,st.asked1) (.returned (.int .i64 1)) w1:=by
   obtain⟨a1,⟨z2,g2,b1,b2,b3,b4,b5,e1,a2⟩,a3⟩:=a6x (r:=1) HC.out HT.out
   have hs:=HBW.out.size
   refine⟨rfl,⟨z2,g2,b1,b2,b3,b4,b5,e1,a2.wider (fun b hb2 => ?_) (fun _ _=>rfl)⟩,(Touch.of_below HBW.out).trans a3⟩
   rcases hb2 with h|⟨h4,h5⟩
   ·exact Or.inl h
   ·exact Or.inr ⟨by omega,h5⟩
  go_ret
  exact hfin
theorem b0n{w w':World}{F T:Nat→Prop}{z z':Nat→Nat}{g:Nat}{st:St}{vs vw vn vl vf vw' vl' t:Value}{es:List Value}{x:Wr}(h:CodeAt w F z g st vs vw vn vl vf)(he:LogIn (Zn F z 6) w vl st.log es)(ht:Touch T w w')(hT:∀b,T b→F b∧(z b=0∨z b=2∨z b=3∨z b=4))(hz:∀b,b<w.heap.size→z' b=z b)
  (row:w'.heap[g]? = some (.cells #[.pointer (some ⟨g,0,none⟩),vs,vw',vn,.int .i64 st.ep,vl',.int .i64 st.asked,vf] 146 (0,0)))
  (seen:Own w' 0 74 32 vn st.safe.length (cellsOf (outOf (fun _=>true) (st.wait++[x]) st.safe)))
  (wait:Own w' 0 78 36 vw' (st.wait.length+1) (wrsC st.wait++x.c)) (wloc:∀k,vw'.ownBlock=some k→vw.ownBlock=some k∨(w.heap.size≤k∧k<w'.heap.size∧z' k=2))
  (own:Own w' 0 149 38 vl' (st.log.length+1) (((st.log.zip es).map fun x=>evC x.1 x.2).flatten++evC (1,x,[]) (.slice none 0 0))) (loc:∀k,vl'.ownBlock=some k→vl.ownBlock=some k∨(w.heap.size≤k∧k<w'.heap.size∧z' k=4))
  (hx:0≤x.ep∧wf64 x.kind∧wf64 x.id) :
  CodeAt w' (grow F w w') z' g { st with wait:=st.wait++[x],log:=st.log++[(1,x,[])] } vs vw' vn vl' vf:=by
 have hF:∀b,F b→grow F w w' b:=fun b hb=>Or.inl hb
 have off:∀k,k=1∨k=5∨k=6→Keeps (Zn F z k) w w':=fun k hk=>a4y ht fun b hb hb2=>by have h1:=(hT b hb).2;have h2:=hb2.2;omega
 refine⟨row,⟨hF _ h.own.1,(hz _ h.lt).trans h.own.2⟩,a0i h.safe h.safeS (off 1 (by decide)),h.safeS.next h.safe hF hz,by simpa [wrsC] using wait,fun k hk => ?_,seen,h.seenS.next h.seen hF hz,⟨es++[.slice none 0 0],?_⟩,fun k hk => ?_,b0z h.faults (off 5 (by decide)) fun b hb hb2=>⟨hF b hb2.1,(hz b hb).trans hb2.2⟩,fun y hy => ?_⟩
 ·rcases wloc k hk with h1|⟨h1,h2,h3⟩
  ·exact h.waitS.next h.wait hF hz k h1
  ·exact⟨Or.inr ⟨h1,h2⟩,h3⟩
 ·exact c0c he (off 6 (by decide)) (fun b hb hb2=>⟨hF b hb2.1,(hz b hb).trans hb2.2⟩) own ⟨none,0,rfl,a7p _ 2,inS_nil _⟩
 ·rcases loc k hk with h1|⟨h1,h2,h3⟩
  ·exact h.logS.next he.own hF hz k h1
  ·exact⟨Or.inr ⟨h1,h2⟩,h3⟩
 ·rcases List.mem_append.1 hy with hy|hy
  ·exact h.eps y hy
  ·rw[List.mem_singleton.1 hy];exact hx
end dsk
namespace dsk
set_option maxRecDepth 100000
open Go.ChangeShapes Go.WideShapes Go.ChangeAt Go.RowKit
open rows
open sec
open Go.Maps
theorem a3m(st:St)(x:Wr):outOf (fun _=>true) (st.wait++[x]) st.safe=(seenOf st).set x.pos.toNat x.s:=by
 simp[outOf,seenOf,List.foldl_append,outStep]
set_option maxHeartbeats 3200000 in
theorem b3w(w:World)(F:Nat→Prop)(d:Value)(st:St)(i:Int)(s:List Int)(k id:Int)(h:CA w F d st)(hFlt:∀b,F b→b<w.heap.size)(hf:st.fine)(hi:wf64 i)(hs:Sec s)(hkw:wf64 k)(hidw:wf64 id)(hin:0≤i∧i<(st.safe.length:Int))(hn:asks st=false) :
  Calls Tryz.prog 37 #[d,.int .i64 i,agg s,.agg #[.int .i64 k,.int .i64 id]] w (CodeDone CA F d w (0,{ st with asked:=st.asked+1,wait:=st.wait++[⟨i,s,k,id,st.ep⟩],log:=st.log++[(1,⟨i,s,k,id,st.ep⟩,[])] })):=by
 obtain⟨z,g,vs,vw,vn,vl,vf,rfl,h⟩:=h
 obtain⟨W,hW⟩:∃W,W=(w.alloc (.cells (u8s s).toArray 74)).alloc (.cells #[.int .i64 k,.int .i64 id] 76):=⟨_,rfl⟩
 have hbW:Below w.heap.size w W:=by rw[hW];exact a0b (a0b (Below.refl _ _) _) _
 have hWs:W.heap.size=w.heap.size+1+1:=by rw[hW];simp
 have hA:=a1d h (Keeps.of_below hbW)
 have A60:At W w.heap.size s:=by rw[hW];exact(at_new w s).alloc _
 have A70:W.heap[w.heap.size+1]? = some (.cells #[.int .i64 k,.int .i64 id] 76 (0,0)):=by
  rw[hW]
  have:=heap_alloc_new (w.alloc (.cells (u8s s).toArray 74)) (.cells #[.int .i64 k,.int .i64 id] 76)
  rwa [size_alloc] at this
 obtain⟨ps,cs,hvs⟩:=h.safe.slice
 subst hvs
 obtain⟨j,rfl⟩:∃j:Nat,i=(j:Int):=⟨i.toNat,by omega⟩
 have hjn:j<st.safe.length:=by omega
 obtain⟨pn,cn,hvn⟩:=h.seen.slice
 subst hvn
 obtain⟨gn,rfl⟩:=b3m h.seen (by omega)
 obtain⟨pw,cw,hvw⟩:=h.wait.slice
 subst hvw
 obtain⟨es0,hes0⟩:=h.log
 obtain⟨pl,cl,hvl⟩:=hes0.own.slice
 subst hvl
 have HM:=ι (cmade g W (a0c hA.row 0 _ rfl))
 have HF:=ι (ccount F z g st _ _ _ _ vf W hA ⟨hf.few.as0,by have:=hf.few.as1;omega⟩)
 unfold CountDone at HF
 rw[hn] at HF
 have hn1:=hf.n1
 have HH:=ι fun w' (h':CodeAt w' F z g st.asked1 (.slice ps st.safe.length cs) (.slice pw st.wait.length cw) (.slice (some ⟨gn,0,none⟩) st.safe.length cn) (.slice pl st.log.length cl) vf)=>chas g st.safe.length cs ps j w' (a0c h'.row 1 _ rfl) hi (by omega)
 rw[decide_eq_true hin] at HH
 have HW:=ι hW
 have HBW:=ι hbW
 have HFL:=ι hFlt
 have HS:=ι hs
 have HSS:=ι (a2n hf)
 have HSL:=ι (a0s st)
 have HKW:=ι hkw
 have HIW:=ι hidw
 have H6:=ι A60
 have H7:=ι A70
 have hep:=hf.few.ep0
 have hep1:=hf.few.ep1
 have hln:=hf.few.ln
 have hwn:=hf.few.wn
 generalize hnn:st.safe.length=n at *
 have HN:=ι hnn
 generalize hmm:st.wait.length=m at *
 have HMM:=ι hmm
 generalize hll:st.log.length=l at *
 have HL:=ι hll
 have hj1:(j:Int)<n:=by omega
 clear h hA hf hW hbW hn hin hi hes0 hFlt hs hkw hidw A60 A70 hnn hmm hll
 go_enter Tryz.func37,Tryz.ntmps37
 go_wp2_with fail
 rw[← HW.out]
 refine HM.out.mono ?_
 rintro e w0 ⟨rfl,rfl⟩
 go_wp2_with (go_at_call 85;refine HF.out.mono ?_;rintro e w1 ⟨rfl,hc,ht⟩;have HC:=ι hc;have HT:=ι ht;clear hc ht)
 refine(HH.out _ HC.out).mono ?_
 rintro e w1' ⟨rfl,rfl⟩
 have hnF6:¬F w.heap.size:=fun hF=>by have:=HFL.out _ hF;omega
 have hnF7:¬F (w.heap.size+1):=fun hF=>by have:=HFL.out _ hF;omega
 have A6:=ι (H6.out.touch HT.out (fun hb=>hnF6 hb.1))
 have A7:=ι (a1j H7.out HT.out (fun hb=>hnF7 hb.1))
 have hsz1:w.heap.size+1+1≤w1.heap.size:=by have:=HT.out.size;omega
 have hg1:g<w1.heap.size:=HC.out.lt
 have hg6:w.heap.size<w1.heap.size:=by omega
 have hg7:w.heap.size+1<w1.heap.size:=by omega
 have C4:Hid (w1.cell? ⟨g,4,none⟩=some (.int .i64 st.ep)):=ι (a0c HC.out.row 4 _ rfl)
 clear hnF6 hnF7 H6 H7 HH HF HM
 go_wp2_with fail
 have h0:=Below.refl w1.drew.heap.size w1.drew
 refine wp_region_held_drew (S:=ext w1.drew) (by kernel_rfl) (Below.refl _ _) (fun hH0 => ?_)
 refine tk 0 rfl ?_
 refine tkv 1 rfl (b2y (by rfl) _ rfl w.heap.size 0 rfl s HS.out.1 (fun w' hw=>(A6.out.later (a0h hw)).range)) ?_
 refine tkv 2 rfl (b2z (by rfl) _ rfl (w.heap.size+1) 0 rfl k id (fun w' hw=>b7q (a3a A7.out (a0h hw) hg7))) ?_
 refine tk 3 rfl ?_
 refine tk 4 rfl ?_
 refine tk 5 rfl ?_
 refine tkv 6 rfl (a0o (by rfl) 3 _ a2w rfl _ rfl g 4 rfl (.int .i64 st.ep) (fun w' hw=>((a0h hw).cell (p:=⟨g,4,none⟩) hg1).trans C4.out)) ?_
 refine tkv 7 rfl (a4x (by rfl) 78 _ rfl [(0,.int .i64 (j:Int)),(1,.agg (u8s s).toArray),(2,.agg #[.int .i64 k,.int .i64 id]),(3,.int .i64 st.ep)] rfl _ (c0g ⟨(j:Int),s,k,id,st.ep⟩ HS.out)) ?_
 refine rd 8 rfl (fun K hK => ?_)
 refine a6y b7r (by rfl) rfl ?_
 intro gx v1 hgx hrx hb1
 have h1:=a0a h0 hb1
 have HX:=ι hrx
 refine hK.out _ _ ?_ (fun hHeld => ?_)
 ·exact h1
 clear hK K hrx
 try simp only[Act.put,List.setIfInBounds_toArray,List.set_cons_zero,List.set_cons_succ]
 refine rd 9 rfl (fun K hK => ?_)
 refine a8b (by rfl) _ _ (by rfl) gx (by rfl) ⟨(j:Int),s,k,id,st.ep⟩ w0 (by rfl) HS.out a1n HX.out ?_
 intro w2 hx2 hb2
 have h2:=h1.trans (hb2.mono hgx)
 have HX2:=ι hx2
 refine hK.out _ _ ?_ (fun hHeld => ?_)
 ·exact h2
 clear hK K hx2
 try simp only[Act.put,List.setIfInBounds_toArray,List.set_cons_zero,List.set_cons_succ]
 refine wpAnyH_done (by kernel_rfl) ?_ _
 have HB2:Hid (Below w1.heap.size w1 w2):=ι (a0h h2)
 have HC2:=ι (a1d HC.out (Keeps.of_below HB2.out))
 have hg2:g<w2.heap.size:=HC2.out.lt
 have hgx2:gx<w2.heap.size:=(Array.getElem?_eq_some_iff.1 HX2.out).1
 have hgx1:w1.heap.size≤gx:=hgx
 have hgn0:=a1z HC.out.seen (k:=gn) rfl
 have hgnz:Zn F z 3 gn:=HC.out.seenS gn rfl
 have hgng:gn≠g:=zne hgnz HC.out.own (by decide)
 have hgn6:gn≠w.heap.size:=fun e=>by have:=HFL.out _ hgnz.1;omega
 have A62:=ι (A6.out.later (HB2.out.mono (Nat.le_refl _)))
 have C3:Hid (w2.cell? ⟨g,3,none⟩=some (.slice (some ⟨gn,0,none⟩) n cn)):=ι (by have h:=a0c HC2.out.row 3 _ rfl;simpa using h)
 have hg62:w.heap.size<w2.heap.size:=by have:=HB2.out.size;omega
 obtain⟨es,hes⟩:=HC2.out.log
 have HES:=ι hes
 clear hes
 have HSE:Hid (Own w2 0 74 32 (.slice (some ⟨gn,0,none⟩) n cn) n (cellsOf (seenOf st))):=ι (by have h:=HC2.out.seen;rw[show st.asked1.safe.length=n from HN.out] at h;exact h)
 clear hHeld hH0 h0 h1 h2 hb1 hb2 HX A6 A7 C4 hgx
 go_wp2_with fail
 have h0:Touch (· = gn) w2.drew w2.drew:=Touch.refl _ _
 refine wp_region_held_drew (S:=Touch (· = gn) w2.drew) (by kernel_rfl) (Touch.refl _ _) (fun hH0 => ?_)
 refine tk 0 rfl ?_
 refine tk 1 rfl ?_
 refine tk 2 rfl ?_
 refine tkv 3 rfl (a0o (by rfl) 22 _ b9r rfl _ rfl g 3 rfl (.slice (some ⟨gn,0,none⟩) n cn) (fun w' hw=>(hw.drewL.cell (p:=⟨g,3,none⟩) hg2 (fun e=>hgng e.symm)).trans C3.out)) ?_
 refine tk 4 rfl ?_
 refine tkv 5 rfl (b2y (by rfl) _ rfl w.heap.size 0 rfl s HS.out.1 (fun w' hw=>(A62.out.touch hw.drewL (fun e=>hgn6 e.symm)).range)) ?_
 refine tk 6 rfl ?_
 refine rd 7 rfl (fun K hK => ?_)
 refine a6o (by rfl) _ _ rfl 0 gn j n cn (by rfl) s (by rfl) HS.out _ HSS.out (by rw[HSL.out];exact hjn) HSE.out.drew ?_
 intro w3 ho3 ht3
 have HO3:=ι ho3
 have HT3:=ι ht3.drewL
 have h1:=ht3
 refine hK.out _ _ ?_ (fun hHeld => ?_)
 ·exact ht3
 clear hK K ho3
 try simp only[Act.put,List.setIfInBounds_toArray,List.set_cons_zero,List.set_cons_succ]
 refine wpAnyH_done (by kernel_rfl) ?_ _
 have hg3:g<w3.heap.size:=Nat.lt_of_lt_of_le hg2 HT3.out.size
 have hgxgn:gx≠gn:=fun e=>by have:=hgn0.2;omega
 have HX3:Hid (AtW w3 gx (⟨(j:Int),s,k,id,st.ep⟩:Wr)):=ι (a1j HX2.out HT3.out hgxgn)
 have HR3:=ι (a1j HC2.out.row HT3.out (fun e=>hgng e.symm))
 have hwz:∀b,(Value.slice pw m cw).ownBlock=some b→Zn F z 2 b:=HC.out.waitS
 have hwng:∀b,(Value.slice pw m cw).ownBlock=some b→b≠g:=fun b hb=>zne (hwz b hb) HC.out.own (by decide)
 have hwngx:∀b,(Value.slice pw m cw).ownBlock=some b→b≠gx:=fun b hb e=>by have:=HFL.out _ (hwz b hb).1;have:=HBW.out.size;omega
 have C2:Hid (w3.cell? ⟨g,2,none⟩=some (.slice pw m cw)):=ι (a0c HR3.out 2 _ rfl)
 have HWO:Hid (Own w3 0 78 36 (.slice pw m cw) m (wrsC st.wait)):=ι (by
  have h1:=a0i (a0i HC.out.wait (S:=fun b=>b<w1.heap.size) (fun b hb=>(a1z HC.out.wait hb).2) (Keeps.of_below HB2.out)) (S:=Zn F z 2) HC.out.waitS (a4y HT3.out fun b hb hb2=>by have h1:=hgnz.2;rw[hb] at hb2;have h2:=hb2.2;omega)
  rw[show st.asked1.wait.length=m from HMM.out] at h1
  exact h1)
 have hgx3:gx<w3.heap.size:=(Array.getElem?_eq_some_iff.1 HX3.out).1
 have HWN:=ι (b1b (⟨(j:Int),s,k,id,st.ep⟩:Wr))
 clear hHeld hH0 h0 h1 ht3 C3 A62 HX2
 go_wp2_with fail
 have h0:Touch (fun b=>(Value.slice pw m cw).ownBlock=some b) w3.drew w3.drew:=Touch.refl _ _
 refine a3i (S:=Touch (fun b=>(Value.slice pw m cw).ownBlock=some b) w3.drew) 10 (by kernel_rfl) (Touch.refl _ _) (fun hH0 => ?_)
 refine tl 0 rfl ?_
 refine tl 1 rfl ?_
 refine tl 2 rfl ?_
 refine tl 3 rfl ?_
 refine tlv 4 rfl (a0o (by rfl) 23 _ Tryz.underlying23 rfl _ rfl g 2 rfl (.slice pw m cw) (fun w' hw=>(hw.drewL.cell (p:=⟨g,2,none⟩) hg3 (fun e=>hwng g e rfl)).trans C2.out)) ?_
 refine tlv 5 rfl (ld_wr (by rfl) _ rfl gx 0 rfl (⟨(j:Int),s,k,id,st.ep⟩:Wr) HS.out (fun w' hw=>AtW.range (a1j HX3.out hw.drewL (fun e=>hwngx gx e rfl)))) ?_
 refine a0q (rs:=[6]) (by kernel_rfl) (by simp) ?_
 refine AllReadyL.cons (o:={ dst:=some 42,op:=Op.buildSlice 23 1 #[(0,Operand.tmp 41)],type:=23,pos := "bdisk.go:74", after := #[{ on:=5,ground:=Ground.data }],guard:=none }) rfl (fun K hK => ?_) AllReadyL.nil
 refine b2m elem_wrs (by decide) (by rfl) _ rfl (Wr.c (⟨(j:Int),s,k,id,st.ep⟩:Wr)) rfl (Wr.c_len HS.out) ?_
 intro b4 w4 hb4 hrd4 hbel4
 have HRD4:=ι hrd4
 have HB4:=ι hbel4
 have h1:Touch (fun b=>(Value.slice pw m cw).ownBlock=some b) w3.drew w4:=Touch.of_below hbel4
 refine hK.out _ _ (Or.inr h1) (fun hHeld => ?_)
 clear hK K hrd4
 try simp only[Act.put,List.setIfInBounds_toArray,List.set_cons_zero,List.set_cons_succ]
 refine a0q (rs:=[7]) (by kernel_rfl) (by simp) ?_
 refine AllReadyL.cons (o:={ dst:=some 43,op:=Op.call { callee:=Callee.builtin Builtin.append,args := #[Operand.tmp 40,Operand.tmp 42],argTypes := #[23,23] },type:=23,pos := "bdisk.go:74", after := #[{ on:=4,ground:=Ground.data },{ on:=6,ground:=Ground.data }],guard:=none }) rfl (fun K hK => ?_) AllReadyL.nil
 refine b2g elem_wrs (by rfl) _ _ rfl (.slice pw m cw) m (wrsC st.wait) (by rfl) (a0x HWO.out.drew HB4.out) _ 1 (Wr.c (⟨(j:Int),s,k,id,st.ep⟩:Wr)) (by rfl) HRD4.out HWN.out (by omega) ?_
 intro pq cq w5 ho5 ht5 hloc5
 have HO5:=ι ho5
 have HLOC5:=ι hloc5
 have h2:=h1.trans ht5
 have HT5:=ι h2
 refine hK.out _ _ (Or.inr h2) (fun hHeld => ?_)
 clear hK K ho5 hloc5
 try simp only[Act.put,List.setIfInBounds_toArray,List.set_cons_zero,List.set_cons_succ]
 refine a0q (rs:=[8]) (by kernel_rfl) (by simp) ?_
 refine AllReadyL.cons (o:={ dst:=some 44,op:=Op.nilCheck (Operand.tmp 36),type:=0,pos := "bdisk.go:74", after := #[{ on:=0,ground:=Ground.data },{ on:=0,ground:=Ground.phase },{ on:=1,ground:=Ground.phase },{ on:=2,ground:=Ground.phase },{ on:=3,ground:=Ground.phase },{ on:=4,ground:=Ground.phase },{ on:=5,ground:=Ground.phase },{ on:=6,ground:=Ground.phase },{ on:=7,ground:=Ground.phase }],guard:=none }) rfl (fun K hK => ?_) AllReadyL.nil
 go_simp
 refine hK.out _ _ (Or.inr (by assumption)) (fun hHeld => ?_)
 clear hK K
 try simp only[Act.put,List.setIfInBounds_toArray,List.set_cons_zero,List.set_cons_succ]
 refine tl 9 rfl ?_
 refine a0q (rs:=[10]) (by kernel_rfl) (by simp) ?_
 refine AllReadyL.cons (o:={ dst:=none,op:=Op.store 23 (Operand.tmp 45) (Operand.tmp 43),type:=0,pos := "bdisk.go:74", after := #[{ on:=9,ground:=Ground.data },{ on:=7,ground:=Ground.data },{ on:=7,ground:=Ground.chain },{ on:=0,ground:=Ground.phase },{ on:=1,ground:=Ground.phase },{ on:=2,ground:=Ground.phase },{ on:=3,ground:=Ground.phase },{ on:=4,ground:=Ground.phase },{ on:=5,ground:=Ground.phase },{ on:=6,ground:=Ground.phase },{ on:=7,ground:=Ground.phase }],guard:=none }) rfl (fun K hK => ?_) AllReadyL.nil
 have HR5:=ι (a1j HR3.out HT5.out.drewL (fun e=>hwng g e rfl))
 have c12:=a0c HR5.out 2 (.slice pw m cw) rfl
 have z12:=a0j HR5.out 2
 have h4:=HT5.out
 go_simp
 refine hK.out _ _ (Or.inl rfl) (fun hHeld => ?_)
 clear hK K c12 z12
 try simp only[Act.put,List.setIfInBounds_toArray,List.set_cons_zero,List.set_cons_succ]
 refine a6l (by kernel_rfl) ?_ _
 obtain⟨W6,hW6⟩:∃W6,W6=w5.setCell ⟨g,2,none⟩ (.slice pq (m+1) cq):=⟨_,rfl⟩
 have hgz:Zn F z 0 g:=HC.out.own
 have T25:Touch (fun b=>F b∧(z b=0∨z b=2∨z b=3)) w2 w5:=(HT3.out.mono fun b hb=>by rw[hb];exact⟨hgnz.1,Or.inr (Or.inr hgnz.2)⟩).trans (HT5.out.drewL.mono fun b hb=>⟨(hwz b hb).1,Or.inr (Or.inl (hwz b hb).2)⟩)
 have T6:Touch (fun b=>F b∧(z b=0∨z b=2∨z b=3)) w2 W6:=by rw[hW6];exact Touch.setCell T25 ⟨g,2,none⟩ ⟨hgz.1,Or.inl hgz.2⟩ _
 have HR6:Hid (W6.heap[g]? = some (.cells #[.pointer (some ⟨g,0,none⟩),.slice ps n cs,.slice pq (m+1) cq,.slice (some ⟨gn,0,none⟩) n cn,.int .i64 st.ep,.slice pl l cl,.int .i64 (st.asked+1),vf] 146 (0,0))):=ι (by rw[hW6];exact a0f HR5.out _)
 have hgxF:¬F gx:=fun hF=>by have:=HFL.out _ hF;omega
 have HX6:Hid (AtW W6 gx (⟨(j:Int),s,k,id,st.ep⟩:Wr)):=by
  have h1:=a1j HX3.out HT5.out.drewL (fun e=>hwngx gx e rfl)
  rw[hW6]
  refine ι ((Below.heap_setCell _ _ _ _ (fun e => ?_)).trans h1)
  have e1:gx=g:=e
  omega
 have HT6:=ι T6
 have HE2:Hid (LogIn (Zn F z 6) w2 (.slice pl l cl) st.asked1.log es):=HES
 have HLO:Hid (Own W6 0 149 38 (.slice pl l cl) l (((st.log.zip es).map fun x=>evC x.1 x.2).flatten)):=ι (by
  have h1:=a0i HE2.out.own (S:=Zn F z 4) HC2.out.logS (a4y T6 fun b hb hb2=>by have h1:=hb.2;have h2:=hb2.2;omega)
  rw[show st.asked1.log.length=l from HL.out] at h1
  exact h1)
 have C5:Hid (W6.cell? ⟨g,5,none⟩=some (.slice pl l cl)):=ι (a0c HR6.out 5 _ rfl)
 have hlz:∀b,(Value.slice pl l cl).ownBlock=some b→Zn F z 4 b:=HC.out.logS
 have hlng:∀b,(Value.slice pl l cl).ownBlock=some b→b≠g:=fun b hb=>zne (hlz b hb) hgz (by decide)
 have hlngx:∀b,(Value.slice pl l cl).ownBlock=some b→b≠gx:=fun b hb e=>hgxF (e▸(hlz b hb).1)
 have HWT6:Hid (Own W6 0 78 36 (.slice pq (m+1) cq) (m+1) (wrsC st.wait++Wr.c (⟨(j:Int),s,k,id,st.ep⟩:Wr))):=by
  rw[hW6]
  refine ι (a4k HO5.out fun b mm c hv e => ?_)
  have hb:(Value.slice pq (m+1) cq).ownBlock=some b:=by rw[hv];rfl
  rcases HLOC5.out b hb with h|⟨h,_⟩
  ·exact hwng b h e
  ·have:=HT3.out.size;have:=HB4.out.size;have:w3.drew.heap.size=w3.heap.size:=rfl;omega
 have hWL6:∀b,(Value.slice pq (m+1) cq).ownBlock=some b→(Value.slice pw m cw).ownBlock=some b∨(w2.heap.size≤b∧b<W6.heap.size):=fun b hb=>by
  rcases HLOC5.out b hb with h|⟨h,h2⟩
  ·exact Or.inl h
  ·have:=HT3.out.size;have:=HB4.out.size;have:w3.drew.heap.size=w3.heap.size:=rfl
   exact Or.inr ⟨by omega,by rw[hW6,b3g];exact h2⟩
 have HWL6:=ι hWL6
 have HSE6:Hid (Own W6 0 74 32 (.slice (some ⟨gn,0,none⟩) n cn) n (cellsOf ((seenOf st).set j s))):=by
  have T36:Touch (fun b=>F b∧(z b=0∨z b=2)) w3 W6:=by rw[hW6];exact Touch.setCell (HT5.out.drewL.mono fun b hb=>⟨(hwz b hb).1,Or.inr (hwz b hb).2⟩) ⟨g,2,none⟩ ⟨hgz.1,Or.inl hgz.2⟩ _
  exact ι (a0i HO3.out (S:=fun b=>b=gn) (fun b hb=>by cases hb;rfl) (T36.keeps fun b hb hb2=>by have h1:=hgnz.2;rw[hb] at hb2;have h2:=hb2.2;omega))
 have hg6':g<W6.heap.size:=(Array.getElem?_eq_some_iff.1 HR6.out).1
 have HEN:=ι (b9c (1,(⟨(j:Int),s,k,id,st.ep⟩:Wr),[]) (.slice none 0 0) rfl)
 rw[← hW6]
 clear hHeld hH0 h0 h1 h2 h4 hW6 T25 T6 C2 HWO HX3 HO5 HLOC5 HT5 HRD4 HB4 HR5 hWL6 ht5 hbel4 hb4 HR3
 go_wp2_with fail
 have h0:Touch (fun b=>(Value.slice pl l cl).ownBlock=some b) W6.drew W6.drew:=Touch.refl _ _
 refine a3i (S:=Touch (fun b=>(Value.slice pl l cl).ownBlock=some b) W6.drew) 11 (by kernel_rfl) (Touch.refl _ _) (fun hH0 => ?_)
 refine tl 0 rfl ?_
 refine tl 1 rfl ?_
 refine tl 2 rfl ?_
 refine tl 3 rfl ?_
 refine tlv 4 rfl (a0o (by rfl) 143 _ Tryz.underlying143 rfl _ rfl g 5 rfl (.slice pl l cl) (fun w' hw=>(hw.drewL.cell (p:=⟨g,5,none⟩) hg6' (fun e=>hlng g e rfl)).trans C5.out)) ?_
 refine tlv 5 rfl (ld_wr (by rfl) _ rfl gx 0 rfl (⟨(j:Int),s,k,id,st.ep⟩:Wr) HS.out (fun w' hw=>AtW.range (a1j HX6.out hw.drewL (fun e=>hlngx gx e rfl)))) ?_
 refine tlv 6 rfl (a4x (by rfl) 149 _ rfl [(0,.int .i64 1),(1,.agg (Wr.c (⟨(j:Int),s,k,id,st.ep⟩:Wr)).toArray)] rfl _ (b6d (⟨(j:Int),s,k,id,st.ep⟩:Wr) HS.out)) ?_
 refine a0q (rs:=[7]) (by kernel_rfl) (by simp) ?_
 refine AllReadyL.cons (o:={ dst:=some 53,op:=Op.buildSlice 143 1 #[(0,Operand.tmp 52)],type:=143,pos := "bdisk.go:75", after := #[{ on:=6,ground:=Ground.data }],guard:=none }) rfl (fun K hK => ?_) AllReadyL.nil
 refine b2m b3h (by decide) (by rfl) _ rfl (evC (1,(⟨(j:Int),s,k,id,st.ep⟩:Wr),[]) (.slice none 0 0)) rfl (b6b HS.out) ?_
 intro b7 w7 hb7 hrd7 hbel7
 have HRD7:=ι hrd7
 have HB7:=ι hbel7
 have h1:Touch (fun b=>(Value.slice pl l cl).ownBlock=some b) W6.drew w7:=Touch.of_below hbel7
 refine hK.out _ _ (Or.inr h1) (fun hHeld => ?_)
 clear hK K hrd7
 try simp only[Act.put,List.setIfInBounds_toArray,List.set_cons_zero,List.set_cons_succ]
 refine a0q (rs:=[8]) (by kernel_rfl) (by simp) ?_
 refine AllReadyL.cons (o:={ dst:=some 54,op:=Op.call { callee:=Callee.builtin Builtin.append,args := #[Operand.tmp 50,Operand.tmp 53],argTypes := #[143,143] },type:=143,pos := "bdisk.go:75", after := #[{ on:=4,ground:=Ground.data },{ on:=7,ground:=Ground.data }],guard:=none }) rfl (fun K hK => ?_) AllReadyL.nil
 refine b2g b3h (by rfl) _ _ rfl (.slice pl l cl) l _ (by rfl) (a0x HLO.out.drew HB7.out) _ 1 (evC (1,(⟨(j:Int),s,k,id,st.ep⟩:Wr),[]) (.slice none 0 0)) (by rfl) HRD7.out HEN.out (by omega) ?_
 intro pr cr w8 ho8 ht8 hloc8
 have HO8:=ι ho8
 have HLOC8:=ι hloc8
 have h2:=h1.trans ht8
 have HT8:=ι h2
 refine hK.out _ _ (Or.inr h2) (fun hHeld => ?_)
 clear hK K ho8 hloc8
 try simp only[Act.put,List.setIfInBounds_toArray,List.set_cons_zero,List.set_cons_succ]
 refine a0q (rs:=[9]) (by kernel_rfl) (by simp) ?_
 refine AllReadyL.cons (o:={ dst:=some 55,op:=Op.nilCheck (Operand.tmp 46),type:=0,pos := "bdisk.go:75", after := #[{ on:=0,ground:=Ground.data },{ on:=0,ground:=Ground.phase },{ on:=1,ground:=Ground.phase },{ on:=2,ground:=Ground.phase },{ on:=3,ground:=Ground.phase },{ on:=4,ground:=Ground.phase },{ on:=5,ground:=Ground.phase },{ on:=6,ground:=Ground.phase },{ on:=7,ground:=Ground.phase },{ on:=8,ground:=Ground.phase }],guard:=none }) rfl (fun K hK => ?_) AllReadyL.nil
 go_simp
 refine hK.out _ _ (Or.inr (by assumption)) (fun hHeld => ?_)
 clear hK K
 try simp only[Act.put,List.setIfInBounds_toArray,List.set_cons_zero,List.set_cons_succ]
 refine tl 10 rfl ?_
 refine a0q (rs:=[11]) (by kernel_rfl) (by simp) ?_
 refine AllReadyL.cons (o:={ dst:=none,op:=Op.store 143 (Operand.tmp 56) (Operand.tmp 54),type:=0,pos := "bdisk.go:75", after := #[{ on:=10,ground:=Ground.data },{ on:=8,ground:=Ground.data },{ on:=8,ground:=Ground.chain },{ on:=0,ground:=Ground.phase },{ on:=1,ground:=Ground.phase },{ on:=2,ground:=Ground.phase },{ on:=3,ground:=Ground.phase },{ on:=4,ground:=Ground.phase },{ on:=5,ground:=Ground.phase },{ on:=6,ground:=Ground.phase },{ on:=7,ground:=Ground.phase },{ on:=8,ground:=Ground.phase }],guard:=none }) rfl (fun K hK => ?_) AllReadyL.nil
 have HR8:=ι (a1j HR6.out HT8.out.drewL (fun e=>hlng g e rfl))
 have c12:=a0c HR8.out 5 (.slice pl l cl) rfl
 have z12:=a0j HR8.out 5
 have h4:=HT8.out
 go_simp
 refine hK.out _ _ (Or.inl rfl) (fun hHeld => ?_)
 clear hK K c12 z12
 try simp only[Act.put,List.setIfInBounds_toArray,List.set_cons_zero,List.set_cons_succ]
 refine a6l (by kernel_rfl) ?_ _
 obtain⟨W9,hW9⟩:∃W9,W9=w8.setCell ⟨g,5,none⟩ (.slice pr (l+1) cr):=⟨_,rfl⟩
 have T69:Touch (fun b=>F b∧(z b=0∨z b=4)) W6 W9:=by rw[hW9];exact Touch.setCell (HT8.out.drewL.mono fun b hb=>⟨(hlz b hb).1,Or.inr (hlz b hb).2⟩) ⟨g,5,none⟩ ⟨hgz.1,Or.inl hgz.2⟩ _
 have T29:Touch (fun b=>F b∧(z b=0∨z b=2∨z b=3∨z b=4)) w2 W9:=(HT6.out.mono fun b hb=>⟨hb.1,by have:=hb.2;omega⟩).trans (T69.mono fun b hb=>⟨hb.1,by have:=hb.2;omega⟩)
 have s26:=HT6.out.size
 have s69:=T69.size
 have s67:W6.heap.size≤w7.heap.size:=HB7.out.size
 have hrow:W9.heap[g]? = some (.cells #[.pointer (some ⟨g,0,none⟩),.slice ps n cs,.slice pq (m+1) cq,.slice (some ⟨gn,0,none⟩) n cn,.int .i64 st.ep,.slice pr (l+1) cr,.int .i64 (st.asked+1),vf] 146 (0,0)):=by rw[hW9];exact a0f HR8.out _
 have hseen:Own W9 0 74 32 (.slice (some ⟨gn,0,none⟩) n cn) n (cellsOf ((seenOf st).set j s)):=a0i HSE6.out (S:=fun b=>b=gn) (fun b hb=>by cases hb;rfl) (T69.keeps fun b hb hb2=>by have h1:=hgnz.2;rw[hb] at hb2;have h2:=hb2.2;omega)
 have hwait:Own W9 0 78 36 (.slice pq (m+1) cq) (m+1) (wrsC st.wait++Wr.c (⟨(j:Int),s,k,id,st.ep⟩:Wr)):=a0i HWT6.out (S:=fun b=>(Value.slice pq (m+1) cq).ownBlock=some b) (fun b hb=>hb) (T69.keeps fun b hb hb2=>by
  rcases HWL6.out b hb with h|⟨h,_⟩
  ·have h1:=(hwz b h).2;have h2:=hb2.2;omega
  ·have h1:=HFL.out b hb2.1;have h2:=HB2.out.size;omega)
 have hlog:Own W9 0 149 38 (.slice pr (l+1) cr) (l+1) (((st.log.zip es).map fun x=>evC x.1 x.2).flatten++evC (1,(⟨(j:Int),s,k,id,st.ep⟩:Wr),[]) (.slice none 0 0)):=by
  rw[hW9]
  refine a4k HO8.out fun b mm c hv e => ?_
  have hb:(Value.slice pr (l+1) cr).ownBlock=some b:=by rw[hv];rfl
  rcases HLOC8.out b hb with h|⟨h,_⟩
  ·exact hlng b h e
  ·omega
 have hfin:=b0n (st:=st.asked1) (x:=(⟨(j:Int),s,k,id,st.ep⟩:Wr)) (t := .slice none 0 0) (z':=fun b=>if b<w2.heap.size then z b else if b<W6.heap.size then 2 else 4) HC2.out HES.out T29 (fun b hb=>hb) (fun b hb=>if_pos hb) hrow
  (by
   have e:outOf (fun _=>true) (st.asked1.wait++[(⟨(j:Int),s,k,id,st.ep⟩:Wr)]) st.asked1.safe=(seenOf st).set j s:=a3m st _
   rw[e,show st.asked1.safe.length=n from HN.out]
   exact hseen)
  (by rw[show st.asked1.wait.length=m from HMM.out];exact hwait)
  (fun b hb=>by
   rcases HWL6.out b hb with h|⟨h,h2⟩
   ·exact Or.inl h
   ·exact Or.inr ⟨h,by omega,by rw[if_neg (by omega),if_pos h2]⟩)
  (by rw[show st.asked1.log.length=l from HL.out];exact hlog)
  (fun b hb=>by
   rcases HLOC8.out b hb with h|⟨h,h2⟩
   ·exact Or.inl h
   ·exact Or.inr ⟨by omega,by rw[hW9,b3g];exact h2,by rw[if_neg (by omega),if_neg (by omega)]⟩)
  ⟨hep,HKW.out,HIW.out⟩
 have hTT:Touch F w W9:=(((Touch.of_below HBW.out).trans (HT.out.mono fun b hb=>hb.1)).trans (Touch.of_below HB2.out)).trans (T29.mono fun b hb=>hb.1)
 have HD:CodeDone CA F (.pointer (some ⟨g,0,none⟩)) w (0,{ st with asked:=st.asked+1,wait:=st.wait++[⟨(j:Int),s,k,id,st.ep⟩],log:=st.log++[(1,⟨(j:Int),s,k,id,st.ep⟩,[])] }) (.returned (.int .i64 0)) W9:=by
  refine⟨rfl,⟨_,g,_,_,_,_,vf,rfl,hfin.wider (fun b hb => ?_) (fun _ _=>rfl)⟩,hTT⟩
  have s12:=HB2.out.size
  rcases hb with h|⟨h4,h5⟩
  ·exact Or.inl h
  ·exact Or.inr ⟨by omega,h5⟩
 rw[hW9] at HD
 clear hfin
 go_wp2_with fail
 go_ret
 exact HD
theorem CA.narrow{w:World}{F:Nat→Prop}{d:Value}{st:St}(h:CA w F d st):CA w (fun b=>F b∧b<w.heap.size) d st:=by
 obtain⟨z,g,vs,vw,vn,vl,vf,rfl,h⟩:=h
 obtain⟨es,he⟩:=h.log
 refine⟨z,g,vs,vw,vn,vl,vf,rfl,h.row,⟨⟨h.own.1,h.lt⟩,h.own.2⟩,h.safe,fun k hk=>⟨⟨(h.safeS k hk).1,(a1z h.safe hk).2⟩,(h.safeS k hk).2⟩,h.wait,fun k hk=>⟨⟨(h.waitS k hk).1,(a1z h.wait hk).2⟩,(h.waitS k hk).2⟩,h.seen,fun k hk=>⟨⟨(h.seenS k hk).1,(a1z h.seen hk).2⟩,(h.seenS k hk).2⟩,⟨es,he.mono fun b hb hT=>⟨⟨hT.1,hb⟩,hT.2⟩⟩,fun k hk=>⟨⟨(h.logS k hk).1,(a1z he.own hk).2⟩,(h.logS k hk).2⟩,h.faults.mono fun b hb hT=>⟨⟨hT.1,hb⟩,hT.2⟩,h.eps⟩
theorem a8c{w w':World}{F:Nat→Prop}{d:Value}{r:Int×St}{e:Ending}(h:CodeDone CA (fun b=>F b∧b<w.heap.size) d w r e w'):CodeDone CA F d w r e w':=by
 obtain⟨h1,⟨z,g,vs,vw,vn,vl,vf,hd,h2⟩,h3⟩:=h
 refine⟨h1,⟨z,g,vs,vw,vn,vl,vf,hd,h2.wider (fun b hb => ?_) (fun _ _=>rfl)⟩,h3.mono fun b hb=>hb.1⟩
 rcases hb with h|h
 ·exact Or.inl h.1
 ·exact Or.inr h
theorem cwrite(w:World)(F:Nat→Prop)(d:Value)(st:St)(i:Int)(s:List Int)(k id:Int)(h:CA w F d st)(hf:st.fine)(hi:wf64 i)(hs:Sec s)(hk:wf64 k)(hid:wf64 id) :
  Calls Tryz.prog 37 #[d,.int .i64 i,agg s,.agg #[.int .i64 k,.int .i64 id]] w (CodeDone CA F d w (writeR st i s k id)):=by
 unfold writeR
 by_cases hin:0≤i∧i<(st.safe.length:Int)
 ·rw[if_pos hin]
  by_cases ha:asks st=true
  ·rw[if_pos ha]
   have:=a8w w F d st i s k id h hf hi (Or.inr ha)
   rw[if_pos hin] at this
   exact this
  ·rw[if_neg ha]
   exact(b3w w _ d st i s k id h.narrow (fun b hb=>hb.2) hf hi hs hk hid hin (by simpa using ha)).mono fun e w' hd=>a8c hd
 ·rw[if_neg hin]
  have:=a8w w F d st i s k id h hf hi (Or.inl hin)
  rw[if_neg hin] at this
  exact this
end dsk
end Go.Proofs.YtjedjkjhodgidaaGreatDoor
