/- What ViewBack wants, part 25. -/
import Derived.Test.YtjedjkjhodgidaaGreatDoorViewBackB
import Derived.Test.YtjedjkjhodgidaaGreatDoorViewBackQ
import Derived.Lib.Split
import Derived.Lib.IndexBytes
set_option linter.unusedVariables false
set_option linter.unusedSimpArgs false
namespace Go.Proofs.YtjedjkjhodgidaaGreatDoor
namespace pa
set_option maxRecDepth 100000
open Go.ChangeShapes Go.WideShapes Go.ChangeAt Go.RowKit
open rows
open ly
def cutK:Nat→List Int→List (List Int)
 | 0,l=>[l]
 | k+1,l=>if (seg l).length=l.length then [l] else seg l::cutK k (l.drop ((seg l).length+1))
theorem b0m:∀(k:Nat) (l x:List Int),x∈cutK k l→x.length≤l.length
 | 0,l,x,h=>by simp[cutK] at h;rw[h];exact Nat.le_refl _
 | k+1,l,x,h=>by
  rw[show cutK (k+1) l=if (seg l).length=l.length then [l] else seg l::cutK k (l.drop ((seg l).length+1)) from rfl] at h
  split at h
  ·simp at h;rw[h];exact Nat.le_refl _
  ·rcases List.mem_cons.1 h with rfl|h
   ·exact b2t l
   ·have:=b0m k _ x h
    rw[List.length_drop] at this
    omega
theorem b8v:∀(k:Nat) (l:List Int),1≤(cutK k l).length
 | 0,_=>Nat.le_refl _
 | k+1,l=>by
  unfold cutK
  split<;>simp
theorem b0k(k:Nat)(l:List Int):cutK (k+1) l=if (seg l).length=l.length then [l] else seg l::cutK k (l.drop ((seg l).length+1)):=rfl
theorem a9n:∀(k:Nat) (l:List Int),l.length≤k→cutK (k+1) l=cutK k l
 | 0,l,h=>by
  have:l=[]:=List.eq_nil_of_length_eq_zero (by omega)
  subst this
  rfl
 | k+1,l,h=>by
  rw[b0k (k+1) l,b0k k l]
  by_cases h1:(seg l).length=l.length
  ·rw[if_pos h1,if_pos h1]
  ·rw[if_neg h1,if_neg h1,a9n k _ (by rw[List.length_drop];omega)]
theorem c0t(m k:Nat)(l:List Int)(h:l.length≤k):cutK (k+m) l=cutK k l:=by
 induction m with
 | zero=>rfl
 | succ m ih=>rw[← Nat.add_assoc,a9n _ _ (by omega),ih]
theorem seg_all{l:List Int}(h:(seg l).length=l.length):seg l=l:=(List.takeWhile_prefix _).eq_of_length h
theorem b3i{l:List Int}(h:(seg l).length≠l.length):l.drop (seg l).length=47::l.drop ((seg l).length+1):=by
 have h1:=b2t l
 have hlt:(seg l).length<l.length:=by omega
 rw[List.drop_eq_getElem_cons hlt]
 congr 1
 have e:l[(seg l).length]=(l.drop (seg l).length)[0]'(by rw[List.length_drop];omega):=by simp
 rw[e]
 have hd:l.drop (seg l).length=l.dropWhile fun x=>x != 47:=by
  have h2:l=seg l++l.dropWhile fun x=>x != 47:=(List.takeWhile_append_dropWhile).symm
  have h3:(seg l++l.dropWhile fun x=>x != 47).drop (seg l).length=l.dropWhile fun x=>x != 47:=List.drop_left
  rw[← h2] at h3
  exact h3
 simp only[hd]
 have hne:(l.dropWhile fun x=>x != 47)≠[]:=by
  rw[← hd]
  intro h
  have:=congrArg List.length h
  rw[List.length_drop] at this
  simp at this
  omega
 have:=List.head_dropWhile_not (fun x:Int=>x != 47) hne
 rw[← List.head_eq_getElem hne]
 simpa using this
theorem b0e:∀(k:Nat) (l:List Int),(cutK k l).length≤k→parse (47::l)=if (cutK k l).all isNm=true then some (cutK k l) else none
 | 0,l,h=>by simp[cutK] at h
 | k+1,l,h=>by
  by_cases h1:(seg l).length=l.length
  ·have e:cutK (k+1) l=[l]:=by rw[cutK,if_pos h1]
   rw[e]
   have e2:=seg_all h1
   cases hn:isNm l with
   | false=>rw[a1u (by rw[e2];exact hn),if_neg (by simp[hn])]
   | true =>
    rw[a3g (by rw[e2];exact hn),h1,List.drop_of_length_le (Nat.le_refl _),parse_nil,if_pos (by simp[hn]),e2]
    rfl
  ·have e:cutK (k+1) l=seg l::cutK k (l.drop ((seg l).length+1)):=by rw[cutK,if_neg h1]
   rw[e] at h ⊢
   have ih:=b0e k (l.drop ((seg l).length+1)) (by simp at h;omega)
   cases hn:isNm (seg l) with
   | false=>rw[a1u hn,if_neg (by simp[hn])]
   | true =>
    rw[a3g hn,b3i h1,ih]
    by_cases h2:(cutK k (l.drop ((seg l).length+1))).all isNm=true
    ·rw[if_pos h2,if_pos (by rw[List.all_cons,hn,h2];rfl)];rfl
    ·rw[if_neg h2,if_neg (by rw[List.all_cons,hn,Bool.true_and];exact h2)];rfl
theorem b2e:∀(k:Nat) (l:List Int) (ns:List (List Int)),(cutK k l).length=k+1→parse (47::l)=some ns→k+1≤ns.length
 | 0,l,ns,_,h=>by
  cases hn:isNm (seg l) with
  | false=>rw[a1u hn] at h;cases h
  | true =>
   rw[a3g hn] at h
   obtain⟨x,_,rfl⟩:=Option.map_eq_some_iff.1 h
   simp
 | k+1,l,ns,hc,h=>by
  by_cases h1:(seg l).length=l.length
  ·rw[cutK,if_pos h1] at hc;simp at hc
  ·rw[cutK,if_neg h1] at hc
   cases hn:isNm (seg l) with
   | false=>rw[a1u hn] at h;cases h
   | true =>
    rw[a3g hn,b3i h1] at h
    obtain⟨x,hx,rfl⟩:=Option.map_eq_some_iff.1 h
    have:=b2e k _ x (by simpa using hc) hx
    simp only[List.length_cons];omega
theorem a9b:∀(l:List UInt8),Lib.indexByte l 47=if (seg (l.map fun c=>(c.toNat:Int))).length=l.length then -1 else ((seg (l.map fun c=>(c.toNat:Int))).length:Int)
 | []=>rfl
 | b::l=>by
  have ih:=a9b l
  have hle:=b2t (l.map fun c=>(c.toNat:Int))
  rw[List.length_map] at hle
  by_cases hb:b=47
  ·subst hb
   simp[Lib.indexByte,seg]
  ·have hb2:((b.toNat:Int) != 47)=true:=by
    have:(b.toNat:Int)≠47:=fun h=>hb (UInt8.toNat_inj.1 (by
     have h2:b.toNat=47:=by omega
     rw[h2];rfl))
    simpa using this
   have e:seg ((b::l).map fun c=>(c.toNat:Int))=(b.toNat:Int)::seg (l.map fun c=>(c.toNat:Int)):=by
    rw[List.map_cons,seg,List.takeWhile_cons,if_pos hb2];rfl
   rw[e,Lib.indexByte,if_neg (by simpa using hb),ih]
   by_cases h1:(seg (l.map fun c=>(c.toNat:Int))).length=l.length
   ·rw[if_pos h1,if_pos (by decide),if_pos (by simp[h1])]
   ·rw[if_neg h1,if_neg (by simp<;>omega),if_neg (by simp;exact h1)]
    simp only[List.length_cons]
    omega
def slashB:ByteArray:={ data := #[47] }
theorem a9p:∀(k:Nat) (l:List UInt8),(Lib.splitK [47] 0 k l).map (fun x=>x.map fun c=>(c.toNat:Int))=cutK k (l.map fun c=>(c.toNat:Int))
 | 0,l=>rfl
 | k+1,l=>by
  have hle:=b2t (l.map fun c=>(c.toNat:Int))
  rw[List.length_map] at hle
  rw[Lib.splitK,cutK,Lib.index_one,a9b,List.length_map]
  by_cases h1:(seg (l.map fun c=>(c.toNat:Int))).length=l.length
  ·rw[if_pos h1,if_pos h1,if_pos (by decide)];rfl
  ·rw[if_neg h1,if_neg h1,if_neg (by simp<;>omega),List.map_cons,a9p k,List.map_drop,Int.toNat_natCast,Nat.add_zero,List.map_take]
   congr 1
   exact(List.prefix_iff_eq_take.1 (List.takeWhile_prefix _)).symm
theorem b4s(k:Nat)(s:ByteArray):(Lib.splitB slashB 0 k s).map bys=cutK k (bys s):=by
 have h:=a9p k s.data.toList
 rw[← show slashB.data.toList=[47] from rfl,← Lib.splitB_data,List.map_map] at h
 exact h
theorem pieces(s:ByteArray):(Lib.splitB slashB 0 (min 5 (s.size+1)-1) s).map bys=cutK 4 (bys s):=by
 rw[b4s]
 by_cases h:4≤s.size
 ·rw[show min 5 (s.size+1)-1=4 by omega]
 ·have h2:=c0t (4-s.size) s.size (bys s) (by rw[a0d];exact Nat.le_refl _)
  rw[show s.size+(4-s.size)=4 by omega] at h2
  rw[h2,show min 5 (s.size+1)-1=s.size by omega]
end pa
end Go.Proofs.YtjedjkjhodgidaaGreatDoor
