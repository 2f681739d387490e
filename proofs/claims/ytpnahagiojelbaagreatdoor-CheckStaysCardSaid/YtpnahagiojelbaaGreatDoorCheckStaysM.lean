/- What CheckStays wants, part 13. -/
import Derived.Test.YtpnahagiojelbaaGreatDoorCheckStaysB
import Derived.Test.YtpnahagiojelbaaGreatDoorCheckStaysL
import Derived.Laws.CopyOwn
import Derived.Deep.RegionLaw
import Derived.Lib.LazyBuf
set_option linter.unusedVariables false
namespace Go.Proofs.YtpnahagiojelbaaGreatDoor
namespace sec
set_option maxRecDepth 100000
open Go.ChangeShapes Go.WideShapes Go.ChangeAt Go.RowKit
open rows
def fits(i k:Int):Prop:=0≤i∧0≤k∧i+k≤32
instance (i k:Int):Decidable (fits i k):=by unfold fits;infer_instance
theorem a9j(i k:Int)(w:World)(hi:(Lit.int .i64 i).wf=true)(hk:(Lit.int .i64 k).wf=true) :
  Calls Tryz.prog 206 #[.int .i64 i,.int .i64 k] w fun e w'=>e = .returned (.bool (decide (fits i k)))∧w=w':=by
 have wi:=wf_i64 hi
 have wk:=wf_i64 hk
 by_cases h1:0≤i
 ·by_cases h2:0≤k
  ·by_cases h3:i≤32-k
   ·have e:decide (fits i k)=true:=decide_eq_true ⟨h1,h2,by omega⟩
    rw[e]
    have d1:decide (0≤i)=true:=decide_eq_true h1
    have d2:decide (0≤k)=true:=decide_eq_true h2
    have d3:decide (i≤32-k)=true:=decide_eq_true h3
    have s3 : -9223372036854775808≤32-k:=by omega
    have s4:32-k≤9223372036854775807:=by omega
    go_enter Tryz.func206,Tryz.ntmps206
    go_wp2
    go_ret
    exact⟨rfl,rfl⟩
   ·have e:decide (fits i k)=false:=decide_eq_false fun h=>h3 (by have:=h.2.2;omega)
    rw[e]
    have d1:decide (0≤i)=true:=decide_eq_true h1
    have d2:decide (0≤k)=true:=decide_eq_true h2
    have d3:decide (i≤32-k)=false:=decide_eq_false h3
    have s3 : -9223372036854775808≤32-k:=by omega
    have s4:32-k≤9223372036854775807:=by omega
    go_enter Tryz.func206,Tryz.ntmps206
    go_wp2
    go_ret
    exact⟨rfl,rfl⟩
  ·have e:decide (fits i k)=false:=decide_eq_false fun h=>h2 h.2.1
   rw[e]
   have d1:decide (0≤i)=true:=decide_eq_true h1
   have d2:decide (0≤k)=false:=decide_eq_false h2
   go_enter Tryz.func206,Tryz.ntmps206
   go_wp2
   go_ret
   exact⟨rfl,rfl⟩
 ·have e:decide (fits i k)=false:=decide_eq_false fun h=>h1 h.1
  rw[e]
  have d1:decide (0≤i)=false:=decide_eq_false h1
  go_enter Tryz.func206,Tryz.ntmps206
  go_wp2
  go_ret
  exact⟨rfl,rfl⟩
theorem a1k:(#[Value.int IntKind.u8 0,Value.int IntKind.u8 0,Value.int IntKind.u8 0,Value.int IntKind.u8 0,Value.int IntKind.u8 0,Value.int IntKind.u8 0,Value.int IntKind.u8 0,Value.int IntKind.u8 0,Value.int IntKind.u8 0,Value.int IntKind.u8 0,Value.int IntKind.u8 0,Value.int IntKind.u8 0,Value.int IntKind.u8 0,Value.int IntKind.u8 0,Value.int IntKind.u8 0,Value.int IntKind.u8 0,Value.int IntKind.u8 0,Value.int IntKind.u8 0,Value.int IntKind.u8 0,Value.int IntKind.u8 0,Value.int IntKind.u8 0,Value.int IntKind.u8 0,Value.int IntKind.u8 0,Value.int IntKind.u8 0,Value.int IntKind.u8 0,Value.int IntKind.u8 0,Value.int IntKind.u8 0,Value.int IntKind.u8 0,Value.int IntKind.u8 0,Value.int IntKind.u8 0,Value.int IntKind.u8 0,Value.int IntKind.u8 0]:Array Value)=(u8s zero32).toArray:=by kernel_rfl
theorem a9g(L:List Int)(off:Nat)(cs:List Int):splice (u8s L) off (u8s cs)=u8s (splice L off cs):=by
 simp[splice,u8s]
theorem b0h{w:World}{g k:Nat}{s:List Int}{cs:Array Value}(h:At w k s)(hk:k≠g):At (w.setRow g cs) k s:=by
 unfold At at *
 rw[setRow_other w g k cs hk]
 exact h
theorem a0k{ops:Array Oper}{rest:List Oper}{o:Oper}{a:Act}{w:World}{Q:Exit→Act→World→Prop}(hgd:o.guard=none)(x y:Operand)(ho:o.op = .store 65 x y)(hd:o.dst=none)
  (g:Nat) (s old:List Int) (hx:a.eval x = .pointer (some ⟨g,0,none⟩)) (hy:a.eval y=agg s) (hs:s.length=32) (hold:old.length=32) (hg:At w g old)
  (h:∀w',At w' g s→Below g w w'→(∀k t,k≠g→At w k t→At w' k t)→wpList Tryz.prog ops Q rest a w'):wpList Tryz.prog ops Q (o::rest) a w:=by
 have hl:(u8s s).toArray.size=32:=by simp[u8s,hs]
 refine wpList_store_row hgd 65 x y ho g (u8s s).toArray hx hy 65 _ hg (by rw[a1j,hl]) (by simp[u8s,hs,hold]) (by simp only[List.all_toArray];exact List.all_eq_true.2 (a1y .u8 s)) ?_
 rw[hd]
 exact h _ (setRow_heap w g _ _ _ _ hg) ((Below.refl g w).trans ⟨rfl,rfl,rfl,by simp[World.setRow],fun k hk=>setRow_other w g k _ (by omega)⟩) (fun k t hk ht=>b0h ht hk)
theorem c0s{w:World}(ty:TypeId)(g off dLen dCap:Nat)(ad:Addr)(sLen sCap:Nat)(old:List Int)(hg:At w g old)(cs:List Int)(hn:cs.length=Nat.min sLen dLen)
  (hsrc:∀j v,(u8s cs)[j]? = some v→w.cell? (ad.add j)=some v) (hfit:off+cs.length≤old.length) :
  (Builtin.copy_ #[30,30] ty #[.slice (some ⟨g,off,none⟩) dLen dCap,.slice (some ad) sLen sCap]).run Tryz.prog w = .ok (goInt cs.length) (w.setRow g (u8s (splice old off cs)).toArray):=by
 have h:=run_copy_row (P:=Tryz.prog) w 30 30 ty 5 g off dLen dCap ad sLen sCap (u8s old).toArray 65 (u8s cs) Tryz.underlying30 (by kernel_rfl) hg (by simpa [u8s] using hn) hsrc (by simpa [u8s] using hfit) (a1y .u8 cs)
 have hl:(u8s cs).length=cs.length:=by simp[u8s]
 have e:(u8s old).toArray.toList.take off++u8s cs++(u8s old).toArray.toList.drop (off+(u8s cs).length)=u8s (splice old off cs):=by
  rw[← a9g,List.append_assoc];rfl
 rw[e,hl] at h
 exact h
theorem a5k{fn:Func}{p:Tmp}{R:Ending→World→Prop}{a:Act}{w:World}(h:fn.results = #[.cell p 65])(g:Nat)(s:List Int)(hp:a.tmps.getD p undef = .pointer (some ⟨g,0,none⟩))(hs:s.length=32)(hg:At w g s)
  (hd:a.defers=[]) (hR:R (.returned (agg s)) w):bodyPost Tryz.prog fn R .ret a w :=
 bodyPost_ret (results_cell_row h a.tmps w g _ _ _ _ hp hg Tryz.underlying65 rfl (by rw[a1j];simp[u8s,hs])) hd hR
theorem a3b{fn:Func}{p q:Tmp}{R:Ending→World→Prop}{a:Act}{w:World}(h:fn.results = #[.cell p 65,.tmp q])(g:Nat)(s:List Int)(v:Value)(hp:a.tmps.getD p undef = .pointer (some ⟨g,0,none⟩))(hq:a.tmps.getD q undef=v)(hs:s.length=32)(hg:At w g s)
  (hd:a.defers=[]) (hR:R (.returned (.tuple #[agg s,v])) w):bodyPost Tryz.prog fn R .ret a w:=by
 refine bodyPost_ret (v := .tuple #[agg s,v]) ?_ hd hR
 have hp':a.tmps[p]?.getD undef = .pointer (some ⟨g,0,none⟩):=by simpa using hp
 have hq':a.tmps[q]?.getD undef=v:=by simpa using hq
 have hl:=run_loadVar_row (P:=Tryz.prog) w g _ 65 _ _ _ hg Tryz.underlying65 rfl (by rw[a1j];simp[u8s,hs])
 simp[results,h,hp',hq',asAddr,hl]
theorem b2q(L:List Int)(off:Nat):splice L off []=L:=by simp[splice]
theorem b7n{w:World}(ty:TypeId)(g off:Nat)(dp sp:Option Addr)(dLen dCap sLen sCap:Nat)(old:List Int)(hg:At w g old)(cs:List Int)(hn:cs.length=Nat.min sLen dLen)
  (hpos:0<cs.length→dp=some ⟨g,off,none⟩∧∃ad,sp=some ad∧∀j v,(u8s cs)[j]? = some v→w.cell? (ad.add j)=some v) (hfit:off+cs.length≤old.length) :
  ∃w',(Builtin.copy_ #[30,30] ty #[.slice dp dLen dCap,.slice sp sLen sCap]).run Tryz.prog w = .ok (goInt cs.length) w'∧At w' g (splice old off cs)∧Below g w w'∧∀k t,k≠g→At w k t→At w' k t:=by
 by_cases h0:cs.length=0
 ·obtain rfl:cs=[]:=List.eq_nil_of_length_eq_zero h0
  refine⟨w,run_copy_none (P:=Tryz.prog) w 30 30 ty 5 dp sp dLen dCap sLen sCap Tryz.underlying30 (by kernel_rfl) (by simpa using hn.symm),?_,Below.refl _ _,fun _ _ _ h=>h⟩
  rw[b2q];exact hg
 ·obtain⟨rfl,ad,rfl,hsrc⟩:=hpos (by omega)
  exact⟨_,c0s ty g off dLen dCap ad sLen sCap old hg cs hn hsrc hfit,setRow_heap w g _ _ _ _ hg,(Below.refl g w).trans ⟨rfl,rfl,rfl,by simp[World.setRow],fun k hk=>setRow_other w g k _ (by omega)⟩,fun k t hk ht=>b0h ht hk⟩
theorem copy_at{ops:Array Oper}{rest:List Oper}{o:Oper}{a:Act}{w:World}{Q:Exit→Act→World→Prop}(hgd:o.guard=none)(d s:Operand)
  (ho:o.op = .call { callee := .builtin .copy,args := #[d,s],argTypes := #[30,30] }) (g off:Nat) (dp sp:Option Addr) (dLen dCap sLen sCap:Nat)
  (hd:a.eval d = .slice dp dLen dCap) (hs:a.eval s = .slice sp sLen sCap) (old:List Int) (hg:At w g old) (cs:List Int) (hn:cs.length=Nat.min sLen dLen)
  (hpos:0<cs.length→dp=some ⟨g,off,none⟩∧∃ad,sp=some ad∧∀j v,(u8s cs)[j]? = some v→w.cell? (ad.add j)=some v) (hfit:off+cs.length≤old.length)
  (h:∀w',At w' g (splice old off cs)→Below g w w'→(∀k t,k≠g→At w k t→At w' k t)→wpList Tryz.prog ops Q rest (a.put o.dst (goInt cs.length)) w'):wpList Tryz.prog ops Q (o::rest) a w:=by
 refine wpList_plain hgd fun K hK => ?_
 obtain⟨w',hrun,h1,h2,h3⟩:=b7n o.type g off dp sp dLen dCap sLen sCap old hg cs hn hpos hfit
 unfold Oper.wp
 simp[execOp,ho,resolve,invoke,builtin,hd,hs,hrun,Result.andThen]
 exact hK _ _ (h w' h1 h2 h3)
theorem rd_src{w:World}{p:Option Addr}{n c:Nat}{bs:List Int}(h:Rd w 1 (.slice p n c) n (u8s bs))(hn:0<n):∃ad,p=some ad∧∀j v,(u8s bs)[j]? = some v→w.cell? (ad.add j)=some v:=by
 rcases h with⟨p',cap',h1,rfl,_⟩|⟨b,off,cap',h1,h2,h3,h4,h5,h6,h7⟩
 ·omega
 ·cases h1
  exact⟨_,rfl,fun j v hj=>by rw[Addr.add_mid];exact h7 j v hj⟩
theorem put_yes(s bs:List Int)(i n c:Nat)(p:Option Addr)(w:World)(hs:Sec s)(hr:Rd w 1 (.slice p n c) n (u8s bs))(hf:i+n≤32) :
  Calls Tryz.prog 171 #[agg s,.int .i64 (i:Int),.slice p n c] w (Rt w (.tuple #[agg (splice s i bs),.bool true])):=by
 have hbl:bs.length=n:=by have:=hr.cells;simpa [u8s] using this
 have HL:=ι hbl
 have HS:=ι hs
 have HC:=ι hr
 obtain⟨w0,hw0⟩:∃w0,w0=((w.alloc (.cells (u8s s).toArray 65)).alloc (.cells (u8s zero32).toArray 65)):=⟨_,rfl⟩
 have hb0:Below w.heap.size w w0:=by rw[hw0];exact a0a (a0a (Below.refl _ _) _) _
 have hs0:At w0 w.heap.size s:=by rw[hw0];exact(at_new w s).alloc _
 have hs1:At w0 (w.heap.size+1) zero32:=by
  rw[hw0]
  have:=at_new (w.alloc (.cells (u8s s).toArray 65)) zero32
  simpa using this
 have A0:=ι hs0
 have A1:=ι hs1
 have HW:=ι (show ∀w,Calls Tryz.prog 206 #[.int .i64 (i:Int),.int .i64 (n:Int)] w fun e w'=>e = .returned (.bool true)∧w=w' from fun w=>by
  have:=a9j (i:Int) (n:Int) w (WalkArith.wf_i64 (by omega)) (WalkArith.wf_i64 (by omega))
  rw[decide_eq_true (show fits (i:Int) (n:Int) from⟨by omega,by omega,by omega⟩)] at this
  exact this)
 have HP:=ι (b2q)
 have hi1:(i:Int)≤32:=by omega
 have HF:=ι hf
 have HSL:Hid ((splice s i bs).length=32):=ι (by rw[length_splice _ _ _ (by rw[hbl,hs.1];omega),hs.1])
 clear hs hr hs0 hs1 hbl
 go_enter Tryz.func171,Tryz.ntmps171
 go_wp2_with fail
 rw[a1k,← hw0]
 clear hw0
 have HC0:=ι (HC.out.later hb0)
 go_wp2_with (first|(go_at_call 206;refine(HW.out _).mono ?_;rintro e w' ⟨rfl,rfl⟩)|(refine copy_at rfl (.tmp 15) (.tmp 16) rfl w.heap.size i _ _ _ _ _ _ rfl rfl s A0.out bs (by rw[HL.out];exact(Nat.min_eq_left (by omega)).symm) (fun hp=>⟨by have hne:¬(32=i):=(by rw[HL.out] at hp;omega);simp[hne],rd_src HC0.out (by rw[← HL.out];exact hp)⟩) (by rw[HL.out,HS.out.1];omega) ?_;intro w1 hA hB hK;have A10:=ι hA;have A11:=ι (hK (w.heap.size+1) zero32 (by omega) A1.out);clear hA hK)|(refine a1v rfl _ rfl w.heap.size rfl _ HSL.out A10.out ?_)|(refine a0k rfl _ _ rfl rfl (w.heap.size+1) _ zero32 rfl rfl HSL.out (by decide) A11.out ?_;intro w2 hA hB2 _;have A21:=ι hA;clear hA))
 all_goals exact a3b rfl (w.heap.size+1) _ _ rfl rfl HSL.out A21.out rfl ⟨rfl,(hb0.trans hB).trans (hB2.mono (by omega))⟩
theorem b2n(a:Addr)(n c:Nat)(bs:List Int)(w:World)(hr:Rd w 1 (.slice (some a) n c) n (u8s bs))(hn:n≤1000) :
  Calls Tryz.prog 221 #[.slice (some a) n c] w fun e w'=>∃p' c',e = .returned (.slice p' n c')∧Rd w' 1 (.slice p' n c') n (u8s bs)∧Below w.heap.size w w':=by
 have HR:=ι hr
 have hq:∀w',(binOp .eql 30 (.slice (some a) n c) (.slice none 0 0)).run Tryz.prog w' = .ok (.bool false) w':=fun w'=>Go.run_eql_slice_nil w' _ _ _ _ _ Tryz.underlying30
 clear hr
 go_enter Tryz.func221,Tryz.ntmps221
 go_wp2_with (at_builtin;refine b7s elem_bytes rfl (.tmp 5) (.tmp 6) rfl w.heap.size _ 0 [] rfl (b5s w 5 1 (Nat.le_refl _)) _ n (u8s bs) rfl (HR.out.later (a0a (Below.refl _ _) _)) (a1y .u8 bs) (by omega) (by simp) ?_;intro pa ca wa ho hb;have HO2:=ι ho;clear ho)
 go_ret
 exact⟨pa,ca,rfl,by have:=HO2.out.rd;simpa using this,(a0a (Below.refl _ _) _).trans hb⟩
end sec
end Go.Proofs.YtpnahagiojelbaaGreatDoor
