/- What ViewBack wants, part 29. -/
import Derived.Test.YtjedjkjhodgidaaGreatDoorViewBackB
import Derived.Test.YtjedjkjhodgidaaGreatDoorViewBackV
import Derived.Lib.SlicesCompact
import Derived.Sort.OwnSorted
set_option linter.unusedVariables false
namespace Go.Proofs.YtjedjkjhodgidaaGreatDoor
namespace lk
set_option maxRecDepth 100000
open Go.Lib
theorem a4w{d:Array (List UInt8)}(hs:∀i j,i≤j→j<d.size→d[i]! ≤ d[j]!):∀m,m≤d.size →
  (compactUpTo d m).Pairwise (· < ·)∧(∀x,x∈compactUpTo d m↔∃j,j<m∧d[j]! = x)
 | 0,_=>⟨by simp[compactUpTo],fun x=>by simp[compactUpTo]⟩
 | m+1,hm=>by
  obtain⟨h1,h2⟩:=a4w hs m (by omega)
  rw[compactUpTo_succ]
  cases hk:keeps d m with
  | true =>
   rw[if_pos rfl]
   have hlt:∀j,j<m→d[j]! < d[m]! := fun j hj=>by
    have hle:=hs j (m-1) (by omega) (by omega)
    have hle2:=hs (m-1) m (by omega) (by omega)
    have hne:d[m]! ≠ d[m-1]! := by
     simp only[keeps,decide_eq_true_eq] at hk
     rcases hk with hk|hk
     ·omega
     ·exact hk
    refine List.lt_of_le_of_lt hle ?_
    exact Decidable.byContradiction fun hn=>hne (List.le_antisymm (List.not_lt.1 hn) hle2)
   refine⟨List.pairwise_append.2 ⟨h1,List.pairwise_singleton _ _,fun a ha b hb => ?_⟩,fun x => ?_⟩
   ·obtain⟨j,hj,rfl⟩:=(h2 a).1 ha
    rw[List.mem_singleton.1 hb]
    exact hlt j hj
   ·rw[List.mem_append,h2,List.mem_singleton]
    constructor
    ·rintro(⟨j,hj,rfl⟩|rfl)
     ·exact⟨j,by omega,rfl⟩
     ·exact⟨m,by omega,rfl⟩
    ·rintro⟨j,hj,rfl⟩
     by_cases e:j=m
     ·exact Or.inr (by rw[e])
     ·exact Or.inl ⟨j,by omega,rfl⟩
  | false =>
   rw[if_neg (by decide),List.append_nil]
   refine⟨h1,fun x=>(h2 x).trans ⟨fun⟨j,hj,e⟩=>⟨j,by omega,e⟩,fun⟨j,hj,e⟩ => ?_⟩⟩
   by_cases ej:j=m
   ·subst ej
    simp only[keeps,decide_eq_false_iff_not,not_or,Decidable.not_not] at hk
    exact⟨j-1,by omega,by rw[← hk.2];exact e⟩
   ·exact⟨j,by omega,e⟩
theorem b1c(zs:List (List UInt8)):(zs.mergeSort fun x y=>decide (x≤y)).Pairwise (· ≤ ·):=by
 have h:=List.pairwise_mergeSort (le:=fun x y:List UInt8=>decide (x≤y)) (fun a b c hab hbc=>by
  simp only[decide_eq_true_eq] at *
  exact List.le_trans hab hbc) (fun a b=>by
  simp only[Bool.or_eq_true,decide_eq_true_eq]
  exact List.le_total a b) zs
 simpa using h
def risen(zs:List (List UInt8)):List (List UInt8):=compact (zs.mergeSort fun x y=>decide (x≤y))
theorem b9f(zs:List (List UInt8)):(risen zs).Pairwise (· < ·)∧∀x,x∈risen zs↔x∈zs:=by
 have hp:=b1c zs
 have hm:∀x,x∈(zs.mergeSort fun x y=>decide (x≤y))↔x∈zs:=fun x=>List.mem_mergeSort
 unfold risen compact
 generalize (zs.mergeSort fun x y=>decide (x≤y))=ys at *
 have h:=a4w (d:=ys.toArray) (fun i j hij hj=>by
  have hj2:j<ys.length:=by simpa using hj
  have hi2:i<ys.length:=by omega
  simp only[List.getElem!_toArray,List.getElem!_eq_getElem?_getD,List.getElem?_eq_getElem hi2,List.getElem?_eq_getElem hj2,Option.getD_some]
  by_cases e:i=j
  ·subst e;exact List.le_refl _
  ·exact List.pairwise_iff_getElem.1 hp i j hi2 hj2 (by omega)) ys.length (by simp)
 refine⟨h.1,fun x=>(h.2 x).trans ?_⟩
 rw[← hm]
 constructor
 ·rintro⟨j,hj,rfl⟩
  simp only[List.getElem!_toArray,List.getElem!_eq_getElem?_getD,List.getElem?_eq_getElem hj,Option.getD_some]
  exact List.getElem_mem hj
 ·intro hx
  obtain⟨j,hj,rfl⟩:=List.mem_iff_getElem.1 hx
  exact⟨j,hj,by simp only[List.getElem!_toArray,List.getElem!_eq_getElem?_getD,List.getElem?_eq_getElem hj,Option.getD_some]⟩
theorem b6y(zs:List (List UInt8)):(risen zs).length≤zs.length:=by
 have h:=List.length_mergeSort (le:=fun x y:List UInt8=>decide (x≤y)) zs
 unfold risen compact compactUpTo
 rw[List.length_map]
 exact Nat.le_trans (List.length_filter_le _ _) (by simp)
end lk
end Go.Proofs.YtjedjkjhodgidaaGreatDoor
