/- What SfsRenames wants, part 10. -/
import Derived.Test.YtiaapfijbidgnaaGreatDoorSfsRenamesB
import Derived.WalkKit
import Derived.Laws.BitsAllLaws
import Derived.Shelf.Small.Strs
set_option linter.unusedVariables false
namespace Go.Proofs.YtiaapfijbidgnaaGreatDoor
namespace choMath
set_option maxRecDepth 100000
open Go.RowKit
def fd(c i:Nat):Nat:=c / 4^i % 4
theorem fd_lt(c i:Nat):fd c i<4:=Nat.mod_lt _ (by omega)
def ofl:List Nat→Nat
 | []=>0
 | d::l=>d+4 * ofl l
def fl(c:Nat):List Nat:=(List.range 32).map (fd c)
theorem b7e(n c:Nat):ofl ((List.range n).map (fd c))=c % 4^n:=by
 induction n generalizing c with
 | zero=>simp[ofl,Nat.mod_one]
 | succ n ih =>
  rw[List.range_succ_eq_map,List.map_cons,List.map_map]
  have e:(fd c ∘ Nat.succ)=fd (c / 4):=by
   funext i
   show c / 4^(i+1) % 4=c / 4 / 4^i % 4
   rw[Nat.div_div_eq_div_mul,Nat.pow_succ,Nat.mul_comm]
  rw[e,ofl,ih]
  show c / 4^0 % 4+_=_
  rw[Nat.pow_zero,Nat.div_one,Nat.pow_succ,Nat.mul_comm (4^n) 4,Nat.mod_mul]
theorem ofl_inj(n:Nat)(c d:Nat)(hc:c<4^n)(hd:d<4^n)(h:∀i,i<n→fd c i=fd d i):c=d:=by
 rw[← Nat.mod_eq_of_lt hc,← Nat.mod_eq_of_lt hd,← b7e,← b7e]
 congr 1
 apply List.map_congr_left
 intro i hi
 exact h i (List.mem_range.1 hi)
def fate(c:Nat)(i:Int):Int:=if 0≤i∧i<32 then (fd c i.toNat:Int) else 0
theorem d0s(k:Nat):4^k=2^(2*k):=by rw[Nat.pow_mul]
theorem d0v(c k:Nat)(hc:c<18446744073709551616):wrap64 (bits .and .u64 ((c:Int) / 2 ^ (2 * k)) 3)=(fd c k:Int):=by
 have hd:c / 2^(2*k)<18446744073709551616:=Nat.lt_of_le_of_lt (Nat.div_le_self _ _) hc
 have e:((c:Int) / 2 ^ (2 * k))=((c / 2^(2*k):Nat):Int):=by norm_cast
 rw[e,show (3:Int)=((3:Nat):Int) from rfl,u64_and_nat _ _ hd (by omega)]
 have:c / 2^(2*k) &&& 3=fd c k:=by
  rw[fd,d0s]
  exact Nat.and_two_pow_sub_one_eq_mod _ 2
 rw[this]
 have:=fd_lt c k
 unfold wrap64;omega
def riB(c:Nat)(n:Int):Bool:=decide (0≤n∧n≤32) && (List.range 32).all fun i=>fd c i != 3 && (decide ((i:Int)<n) || fd c i == 0)
theorem fd_hi(c n i:Nat)(h:c / 4^n=0)(hi:n≤i):fd c i=0:=by
 rw[fd]
 have:c / 4^i=0:=by
  rw[Nat.div_eq_zero_iff] at h ⊢
  rcases h with h|h
  ·exact absurd h (by simp)
  ·exact Or.inr (Nat.lt_of_lt_of_le h (Nat.pow_le_pow_right (by omega) hi))
 rw[this]
theorem hi_zero(c n:Nat)(hc:c<4^32)(hn:n≤32)(h:∀i,n≤i→i<32→fd c i=0):c / 4^n=0:=by
 rw[Nat.div_eq_zero_iff]
 refine Or.inr ?_
 have:c=c % 4^n:=by
  apply ofl_inj 32 _ _ hc (Nat.lt_of_le_of_lt (Nat.mod_le _ _) hc)
  intro i hi
  by_cases l:i<n
  ·rw[fd,fd]
   have:c % 4^n / 4^i % 4=c / 4^i % 4:=by
    rw[show (4:Nat)^n=4^i * 4^(n-i) from by rw[← Nat.pow_add];congr 1;omega,Nat.mod_mul_right_div_self,show n-i=1+(n-i-1) from by omega,Nat.pow_add,Nat.pow_one,Nat.mod_mul_right_mod]
   rw[this]
  ·rw[h i (by omega) hi,fd,Nat.div_eq_of_lt (Nat.lt_of_lt_of_le (Nat.mod_lt _ (Nat.pow_pos (by omega))) (Nat.pow_le_pow_right (by omega) (by omega)))]
 rw[this]
 exact Nat.mod_lt _ (Nat.pow_pos (by omega))
theorem riB_in(c n:Nat)(hc:c<4^32)(hn:n≤32):riB c n=((List.range n).all (fun i=>decide (fd c i≤2)) && decide (c / 4^n=0)):=by
 rw[Bool.eq_iff_iff]
 simp only[riB,Bool.and_eq_true,decide_eq_true_eq,List.all_eq_true,List.mem_range,bne_iff_ne,Bool.or_eq_true,beq_iff_eq]
 constructor
 ·rintro⟨_,h⟩
  refine⟨fun i hi => ?_,hi_zero c n hc hn fun i hi h32 => ?_⟩
  ·have:=(h i (by omega)).1
   have:=fd_lt c i
   omega
  ·rcases(h i h32).2 with e|e
   ·omega
   ·exact e
 ·rintro⟨h,h0⟩
  refine⟨by omega,fun i hi=>⟨?_,?_⟩⟩
  ·by_cases l:i<n
   ·have:=h i l;omega
   ·rw[fd_hi c n i h0 (by omega)];omega
  ·by_cases l:i<n
   ·exact Or.inl (by omega)
   ·exact Or.inr (fd_hi c n i h0 (by omega))
theorem riB_out(c:Nat)(n:Int)(h:n<0∨32<n):riB c n=false:=by
 rw[riB,decide_eq_false (by omega)];rfl
def base(t:Bool):Nat:=if t then 3 else 2
def cnt(n:Int)(t:Bool):Nat:=if 0≤n∧n≤32 then base t ^ n.toNat else 0
theorem c6g(c k:Nat):((c:Int) / 2 ^ (2 * k) == 0)=decide (c / 4^k=0):=by
 have e:((c:Int) / 2 ^ (2 * k))=((c / 2^(2*k):Nat):Int):=by norm_cast
 rw[e,d0s]
 generalize c / 2^(2*k)=m
 by_cases h:m=0<;>simp[h]
def alP(c:Nat)(zs:List Int)(i k:Nat):Bool:=fd c k == 0 || !(decide (zs.getD i 0<zs.getD k 0)) || fd c i == 1
def alB(c:Nat)(zs:List Int):Bool:=riB c zs.length && (List.range zs.length).all fun i=>(List.range zs.length).all (alP c zs i)
def lr(c:Nat)(zs:List Int):Nat→Int×Bool
 | 0=>(0,false)
 | j+1=>if fd c j≠0∧((lr c zs j).2=false∨(lr c zs j).1<zs.getD j 0) then (zs.getD j 0,true) else lr c zs j
theorem lr_spec(c:Nat)(zs:List Int)(j:Nat):((lr c zs j).2=false→∀k,k<j→fd c k=0) ∧
  ((lr c zs j).2=true→(∃k,k<j∧fd c k≠0∧zs.getD k 0=(lr c zs j).1)∧∀k,k<j→fd c k≠0→zs.getD k 0≤(lr c zs j).1):=by
 induction j with
 | zero=>exact⟨fun _ k h=>absurd h (by omega),(fun h=>by cases h)⟩
 | succ j ih =>
  obtain⟨h1,h2⟩:=ih
  rw[lr]
  by_cases hc:fd c j≠0∧((lr c zs j).2=false∨(lr c zs j).1<zs.getD j 0)
  ·rw[if_pos hc]
   refine⟨(fun h=>by cases h),fun _=>⟨⟨j,by omega,hc.1,rfl⟩,fun k hk hf => ?_⟩⟩
   by_cases e:k=j
   ·subst e;exact Int.le_refl _
   ·rcases hc.2 with h|h
    ·exact absurd (h1 h k (by omega)) hf
    ·by_cases hr:(lr c zs j).2=true
     ·have:=(h2 hr).2 k (by omega) hf
      show zs.getD k 0≤zs.getD j 0
      omega
     ·exact absurd (h1 (by simpa using hr) k (by omega)) hf
  ·rw[if_neg hc]
   refine⟨fun h k hk => ?_,fun h => ?_⟩
   ·by_cases e:k=j
    ·subst e
     by_cases hz:fd c k=0
     ·exact hz
     ·exact absurd ⟨hz,Or.inl h⟩ hc
    ·exact h1 h k (by omega)
   ·obtain⟨⟨k0,a,b,d⟩,h4⟩:=h2 h
    refine⟨⟨k0,by omega,b,d⟩,fun k hk hf => ?_⟩
    by_cases e:k=j
    ·subst e
     by_cases hl:(lr c zs k).1<zs.getD k 0
     ·exact absurd ⟨hf,Or.inr hl⟩ hc
     ·omega
    ·exact h4 k (by omega) hf
def dvP(c:Nat)(zs:List Int)(L:Int)(i:Nat):Bool := !(decide (zs.getD i 0<L)) || fd c i == 1
theorem alB_dev(c:Nat)(zs:List Int)(hr:riB c zs.length=true):alB c zs=(!(lr c zs zs.length).2 || (List.range zs.length).all (dvP c zs (lr c zs zs.length).1)):=by
 have hs:=lr_spec c zs zs.length
 rw[alB,hr,Bool.true_and,Bool.eq_iff_iff,Bool.or_eq_true,List.all_eq_true,List.all_eq_true]
 cases hR:(lr c zs zs.length).2 with
 | false =>
  have h0:=hs.1 hR
  constructor
  ·intro _;exact Or.inl rfl
  ·intro _ i hi
   rw[List.all_eq_true]
   intro k hk
   rw[alP,h0 k (List.mem_range.1 hk)];rfl
 | true =>
  obtain⟨⟨k0,hk0,hf0,he0⟩,hall⟩:=hs.2 hR
  constructor
  ·intro h
   refine Or.inr fun i hi => ?_
   have h1:=h i hi
   rw[List.all_eq_true] at h1
   have h2:=h1 k0 (List.mem_range.2 hk0)
   rw[alP,he0] at h2
   rw[dvP]
   simp only[Bool.or_eq_true,beq_iff_eq] at h2 ⊢
   rcases h2 with(h2|h2)|h2
   ·exact absurd h2 hf0
   ·exact Or.inl h2
   ·exact Or.inr h2
  ·rintro(h|h) i hi
   ·cases h
   ·rw[List.all_eq_true]
    intro k hk
    have h1:=h i hi
    rw[dvP] at h1
    rw[alP]
    simp only[Bool.or_eq_true,beq_iff_eq,Bool.not_eq_true',decide_eq_false_iff_not] at h1 ⊢
    by_cases hz:fd c k=0
    ·exact Or.inl (Or.inl hz)
    ·have:=hall k (List.mem_range.1 hk) hz
     rcases h1 with h1|h1
     ·exact Or.inl (Or.inr (by omega))
     ·exact Or.inr h1
end choMath
end Go.Proofs.YtiaapfijbidgnaaGreatDoor
