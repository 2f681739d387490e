/- What CheckTells wants, part 20. -/
import Derived.Test.YtkchliephkkioaaGreatCheckTellsB
import Derived.Test.YtkchliephkkioaaGreatCheckTellsQ
import Derived.Test.YtkchliephkkioaaGreatCheckTellsS
import Derived.Laws.Cover1
import Derived.Laws.BytesArg
import Derived.Deep.DrawnRows
set_option linter.unusedVariables false
set_option linter.unusedSimpArgs false
namespace Go.Proofs.YtkchliephkkioaaGreat
namespace fs
set_option maxRecDepth 100000
open sec
open ly
open lk
open pa
theorem b6x(ss:List (List Int))(k:Int):rightE (entAt ss k)=true:=by
 unfold entAt
 split
 ·unfold entOfV
  split
  ·rename_i h
   rw[entOfB,Bool.and_eq_true] at h
   exact h.1
  ·exact a3u
 ·exact a3u
theorem a1i{ss:List (List Int)}{k:Int}(h:(entAt ss k).used=true):0≤(entAt ss k).parent∧(entAt ss k).parent<16∧1≤(entAt ss k).target∧(entAt ss k).target<16∧nameB (entAt ss k).name=true:=by
 have hr:=b6x ss k
 rw[a2m h] at hr
 simp only[Bool.and_eq_true,decide_eq_true_eq] at hr
 exact⟨hr.1.1.1.1,hr.1.1.1.2,hr.1.1.2,hr.1.2,hr.2⟩
end fs
namespace fs
set_option maxRecDepth 100000
open sec
open ly
open lk
open pa
structure Nd where
 path:ByteArray
 dir:Bool
 data:ByteArray
def nd0:Nd:=⟨ByteArray.empty,false,ByteArray.empty⟩
end fs
namespace fs
set_option maxRecDepth 100000
open sec
open ly
open lk
open pa
open al
theorem getD_set_ne{t:List Nd}{i j:Nat}(h:j≠i)(a:Nd):(t.set i a).getD j nd0=t.getD j nd0:=by
 have h2:¬i=j:=fun e=>h e.symm
 simp[List.getD,List.getElem?_set,h2]
theorem a2w{ss:List (List Int)}(m:Int):rightI (inoAt ss m)=true:=by
 unfold inoAt
 split
 ·rw[inoOfV]
  split
  ·rename_i h
   rw[inoOfB,Bool.and_eq_true] at h
   exact h.1
  ·decide
 ·decide
theorem b6p{ss:List (List Int)}(m:Int):(inoAt ss m).kind=0∨(inoAt ss m).kind=1∨(inoAt ss m).kind=2:=by
 by_cases h0:(inoAt ss m).kind=0
 ·exact Or.inl h0
 ·by_cases h1:(inoAt ss m).kind=1
  ·exact Or.inr (Or.inl h1)
  ·by_cases h2:(inoAt ss m).kind=2
   ·exact Or.inr (Or.inr h2)
   ·have:=a2w (ss:=ss) m
    rw[a3d h0 h1 h2] at this
    cases this
theorem a6g{ss:List (List Int)}{m:Int}(h:(inoAt ss m).kind≠1):(inoAt ss m).size=0∧(inoAt ss m).b=[0,0,0,0]:=by
 have h02:(inoAt ss m).kind=0∨(inoAt ss m).kind=2:=by
  rcases b6p (ss:=ss) m with h0|h1|h2
  ·exact Or.inl h0
  ·exact absurd h1 h
  ·exact Or.inr h2
 have hr:=a2w (ss:=ss) m
 rw[a2q h02,Bool.and_eq_true,beq_iff_eq,beq_iff_eq] at hr
 exact hr
theorem b5a{ss:List (List Int)}(m:Int):0≤(inoAt ss m).size∧(inoAt ss m).size≤128:=by
 by_cases h:(inoAt ss m).kind=1
 ·have hr:=a2w (ss:=ss) m
  rw[a1s h,Bool.and_eq_true,Bool.and_eq_true,decide_eq_true_eq,decide_eq_true_eq] at hr
  exact hr.1
 ·rw[(a6g h).1];decide
theorem b4o{ss:List (List Int)}(m:Int):need (inoAt ss m).size.toNat≤4:=a7j (by have:=(b5a (ss:=ss) m);omega)
theorem b2j{ss:List (List Int)}{m:Int}(h:(inoAt ss m).kind=1){i:Nat}(hi:i<need (inoAt ss m).size.toNat):1≤(inoAt ss m).b.getD i 0∧(inoAt ss m).b.getD i 0≤24∧∀j,j<i→(inoAt ss m).b.getD j 0≠(inoAt ss m).b.getD i 0:=by
 have hr:=a2w (ss:=ss) m
 rw[a1s h,Bool.and_eq_true] at hr
 have h4:=b4o (ss:=ss) m
 have hb:=b0k hr.2 i (by omega)
 rw[a5h hi,Bool.and_eq_true,Bool.and_eq_true,decide_eq_true_eq,decide_eq_true_eq,Bool.not_eq_true'] at hb
 refine⟨hb.1.1,hb.1.2,fun j hj e => ?_⟩
 have hc:((inoAt ss m).b.take i).contains ((inoAt ss m).b.getD i 0)=true:=by
  rw[← e]
  by_cases hl:j<(inoAt ss m).b.length
  ·rw[List.contains_iff_mem,List.mem_take_iff_getElem]
   exact⟨j,by omega,by simp[List.getD,hl]⟩
  ·have h1:(inoAt ss m).b.getD j 0=0:=by simp[List.getD,hl]
   rw[h1] at e
   have:=hb.1.1
   omega
 rw[hc] at hb
 cases hb.2
theorem b1w{ss:List (List Int)}(hs:Secs ss){m:Int}{i:Nat}(hi:¬i<need (inoAt ss m).size.toNat):(inoAt ss m).b.getD i 0=0:=by
 by_cases h:(inoAt ss m).kind=1
 ·by_cases h4:i<4
  ·have hr:=a2w (ss:=ss) m
   rw[a1s h,Bool.and_eq_true] at hr
   have hb:=b0k hr.2 i h4
   rw[a5e hi,beq_iff_eq] at hb
   exact hb
  ·have h5:=a1g hs m
   have:(inoAt ss m).b.length≤i:=by omega
   simp[List.getD,this]
 ·rw[(a6g h).2]
  match i with
  | 0=>rfl
  | 1=>rfl
  | 2=>rfl
  | 3=>rfl
  | i+4=>rfl
end fs
end Go.Proofs.YtkchliephkkioaaGreat
