/- What ViewBack wants, part 7. -/
import Derived.Test.YtjedjkjhodgidaaGreatDoorViewBackB
import Derived.Test.YtjedjkjhodgidaaGreatDoorViewBackF
import Derived.Laws.CopyOwn
import Derived.Deep.RegionLaw
import Derived.Lib.LazyBuf
set_option linter.unusedVariables false
namespace Go.Proofs.YtjedjkjhodgidaaGreatDoor
namespace sec
set_option maxRecDepth 100000
open Go.ChangeShapes Go.WideShapes Go.ChangeAt Go.RowKit
open rows
def fits(i k:Int):Prop:=0≤i∧0≤k∧i+k≤32
instance (i k:Int):Decidable (fits i k):=by unfold fits;infer_instance
theorem a6z(i k:Int)(w:World)(hi:(Lit.int .i64 i).wf=true)(hk:(Lit.int .i64 k).wf=true) :
  Calls Tryz.prog 179 #[.int .i64 i,.int .i64 k] w fun e w'=>e = .returned (.bool (decide (fits i k)))∧w=w':=by
 have wi:=wf_i64 hi
 have wk:=wf_i64 hk
 by_cases h1:0≤i
 ·by_cases h2:0≤k
  ·by_cases h3:i≤32-k
   ·have e:decide (fits i k)=true:=decide_eq_true ⟨h1,h2,by omega⟩
    rw[e]
    have d1:decide (0≤i)=true:=decide_eq_true h1
    have d2:decide (0≤k)=true:=decide_eq_true h2
    have d3:decide (i≤32-k)=true:=decide_eq_true h3
    have s3 : -9223372036854775808≤32-k:=by omega
    have s4:32-k≤9223372036854775807:=by omega
    go_enter Tryz.func179,Tryz.ntmps179
    go_wp2
    go_ret
    exact⟨rfl,rfl⟩
   ·have e:decide (fits i k)=false:=decide_eq_false fun h=>h3 (by have:=h.2.2;omega)
    rw[e]
    have d1:decide (0≤i)=true:=decide_eq_true h1
    have d2:decide (0≤k)=true:=decide_eq_true h2
    have d3:decide (i≤32-k)=false:=decide_eq_false h3
    have s3 : -9223372036854775808≤32-k:=by omega
    have s4:32-k≤9223372036854775807:=by omega
    go_enter Tryz.func179,Tryz.ntmps179
    go_wp2
    go_ret
    exact⟨rfl,rfl⟩
  ·have e:decide (fits i k)=false:=decide_eq_false fun h=>h2 h.2.1
   rw[e]
   have d1:decide (0≤i)=true:=decide_eq_true h1
   have d2:decide (0≤k)=false:=decide_eq_false h2
   go_enter Tryz.func179,Tryz.ntmps179
   go_wp2
   go_ret
   exact⟨rfl,rfl⟩
 ·have e:decide (fits i k)=false:=decide_eq_false fun h=>h1 h.1
  rw[e]
  have d1:decide (0≤i)=false:=decide_eq_false h1
  go_enter Tryz.func179,Tryz.ntmps179
  go_wp2
  go_ret
  exact⟨rfl,rfl⟩
theorem a0u:(#[Value.int IntKind.u8 0,Value.int IntKind.u8 0,Value.int IntKind.u8 0,Value.int IntKind.u8 0,Value.int IntKind.u8 0,Value.int IntKind.u8 0,Value.int IntKind.u8 0,Value.int IntKind.u8 0,Value.int IntKind.u8 0,Value.int IntKind.u8 0,Value.int IntKind.u8 0,Value.int IntKind.u8 0,Value.int IntKind.u8 0,Value.int IntKind.u8 0,Value.int IntKind.u8 0,Value.int IntKind.u8 0,Value.int IntKind.u8 0,Value.int IntKind.u8 0,Value.int IntKind.u8 0,Value.int IntKind.u8 0,Value.int IntKind.u8 0,Value.int IntKind.u8 0,Value.int IntKind.u8 0,Value.int IntKind.u8 0,Value.int IntKind.u8 0,Value.int IntKind.u8 0,Value.int IntKind.u8 0,Value.int IntKind.u8 0,Value.int IntKind.u8 0,Value.int IntKind.u8 0,Value.int IntKind.u8 0,Value.int IntKind.u8 0]:Array Value)=(u8s zero32).toArray:=by kernel_rfl
theorem b4t(L:List Int)(off:Nat)(cs:List Int):splice (u8s L) off (u8s cs)=u8s (splice L off cs):=by
 simp[splice,u8s]
theorem a8r{w:World}{g k:Nat}{s:List Int}{cs:Array Value}(h:At w k s)(hk:k≠g):At (w.setRow g cs) k s:=by
 unfold At at *
 rw[setRow_other w g k cs hk]
 exact h
theorem a0g{ops:Array Oper}{rest:List Oper}{o:Oper}{a:Act}{w:World}{Q:Exit→Act→World→Prop}(hgd:o.guard=none)(x y:Operand)(ho:o.op = .store 74 x y)(hd:o.dst=none)
  (g:Nat) (s old:List Int) (hx:a.eval x = .pointer (some ⟨g,0,none⟩)) (hy:a.eval y=agg s) (hs:s.length=32) (hold:old.length=32) (hg:At w g old)
  (h:∀w',At w' g s→Below g w w'→(∀k t,k≠g→At w k t→At w' k t)→wpList Tryz.prog ops Q rest a w'):wpList Tryz.prog ops Q (o::rest) a w:=by
 have hl:(u8s s).toArray.size=32:=by simp[u8s,hs]
 refine wpList_store_row hgd 74 x y ho g (u8s s).toArray hx hy 74 _ hg (by rw[a0m,hl]) (by simp[u8s,hs,hold]) (by simp only[List.all_toArray];exact List.all_eq_true.2 (a2t .u8 s)) ?_
 rw[hd]
 exact h _ (setRow_heap w g _ _ _ _ hg) ((Below.refl g w).trans ⟨rfl,rfl,rfl,by simp[World.setRow],fun k hk=>setRow_other w g k _ (by omega)⟩) (fun k t hk ht=>a8r ht hk)
theorem b1d{fn:Func}{p:Tmp}{R:Ending→World→Prop}{a:Act}{w:World}(h:fn.results = #[.cell p 74])(g:Nat)(s:List Int)(hp:a.tmps.getD p undef = .pointer (some ⟨g,0,none⟩))(hs:s.length=32)(hg:At w g s)
  (hd:a.defers=[]) (hR:R (.returned (agg s)) w):bodyPost Tryz.prog fn R .ret a w :=
 bodyPost_ret (results_cell_row h a.tmps w g _ _ _ _ hp hg Tryz.underlying74 rfl (by rw[a0m];simp[u8s,hs])) hd hR
theorem a1m{fn:Func}{p q:Tmp}{R:Ending→World→Prop}{a:Act}{w:World}(h:fn.results = #[.cell p 74,.tmp q])(g:Nat)(s:List Int)(v:Value)(hp:a.tmps.getD p undef = .pointer (some ⟨g,0,none⟩))(hq:a.tmps.getD q undef=v)(hs:s.length=32)(hg:At w g s)
  (hd:a.defers=[]) (hR:R (.returned (.tuple #[agg s,v])) w):bodyPost Tryz.prog fn R .ret a w:=by
 refine bodyPost_ret (v := .tuple #[agg s,v]) ?_ hd hR
 have hp':a.tmps[p]?.getD undef = .pointer (some ⟨g,0,none⟩):=by simpa using hp
 have hq':a.tmps[q]?.getD undef=v:=by simpa using hq
 have hl:=run_loadVar_row (P:=Tryz.prog) w g _ 74 _ _ _ hg Tryz.underlying74 rfl (by rw[a0m];simp[u8s,hs])
 simp[results,h,hp',hq',asAddr,hl]
theorem a7q(a:Addr)(n c:Nat)(bs:List Int)(w:World)(hr:Rd w 1 (.slice (some a) n c) n (u8s bs))(hn:n≤1000) :
  Calls Tryz.prog 180 #[.slice (some a) n c] w fun e w'=>∃p' c',e = .returned (.slice p' n c')∧Rd w' 1 (.slice p' n c') n (u8s bs)∧Below w.heap.size w w':=by
 have HR:=ι hr
 have hq:∀w',(binOp .eql 54 (.slice (some a) n c) (.slice none 0 0)).run Tryz.prog w' = .ok (.bool false) w':=fun w'=>Go.run_eql_slice_nil w' _ _ _ _ _ Tryz.underlying54
 clear hr
 go_enter Tryz.func180,Tryz.ntmps180
 go_wp2_with (at_builtin;refine a5s b4v rfl (.tmp 5) (.tmp 6) rfl w.heap.size _ 0 [] rfl (b3k w 5 1 (Nat.le_refl _)) _ n (u8s bs) rfl (HR.out.later (a0b (Below.refl _ _) _)) (a2t .u8 bs) (by omega) (by simp) ?_;intro pa ca wa ho hb;have HO2:=ι ho;clear ho)
 go_ret
 exact⟨pa,ca,rfl,by have:=HO2.out.rd;simpa using this,(a0b (Below.refl _ _) _).trans hb⟩
end sec
end Go.Proofs.YtjedjkjhodgidaaGreatDoor
