/- What CheckTells wants, part 24. -/
import Derived.Test.YtkchliephkkioaaGreatCheckTellsB
import Derived.Test.YtkchliephkkioaaGreatCheckTellsC
import Derived.Test.YtkchliephkkioaaGreatCheckTellsQ
import Derived.Test.YtkchliephkkioaaGreatCheckTellsR
import Derived.Test.YtkchliephkkioaaGreatCheckTellsS
import Derived.Test.YtkchliephkkioaaGreatCheckTellsT
import Derived.Test.YtkchliephkkioaaGreatCheckTellsV
import Derived.Test.YtkchliephkkioaaGreatCheckTellsW
set_option linter.unusedVariables false
set_option linter.unusedSimpArgs false
namespace Go.Proofs.YtkchliephkkioaaGreat
namespace lk
set_option maxRecDepth 100000
open rows
open sec
open ly
open fs (a1i)
def kindAt(ss:List (List Int))(n:Int):Int:=(inoAt ss n).kind
def linkB(ss:List (List Int))(k:Nat):Bool:=(entAt ss (k:Int)).used && (decide (kindAt ss (entAt ss (k:Int)).parent=2) && !decide (kindAt ss (entAt ss (k:Int)).target=0))
inductive Reach (ss:List (List Int)):Int→Prop
 | root:Reach ss 0
 | step (k:Nat) (hk:k<24) (hl:linkB ss k=true) (hp:Reach ss (entAt ss (k:Int)).parent):Reach ss (entAt ss (k:Int)).target
theorem a3l{ss:List (List Int)}{k:Nat}(h:linkB ss k=true):(entAt ss (k:Int)).used=true:=by
 rw[linkB,Bool.and_eq_true] at h;exact h.1
theorem a8o{ss:List (List Int)}{n:Int}(h:Reach ss n):0≤n∧n<16:=by
 cases h with
 | root=>omega
 | step k hk hl hp=>have:=a1i (a3l hl);omega
def rstep(ss:List (List Int))(s:List Bool)(k:Nat):List Bool:=if linkB ss k && s.getD (entAt ss (k:Int)).parent.toNat false then s.set (entAt ss (k:Int)).target.toNat true else s
def rsteps(ss:List (List Int))(s:List Bool):Nat→List Bool
 | 0=>s
 | k+1=>rstep ss (rsteps ss s k) k
def in0:List Bool:=true::List.replicate 15 false
def rrounds(ss:List (List Int)):Nat→List Bool
 | 0=>in0
 | n+1=>rsteps ss (rrounds ss n) 24
def reachL(ss:List (List Int)):List Bool:=rrounds ss 16
def reachB(ss:List (List Int))(n:Int):Bool:=(reachL ss).getD n.toNat false
theorem b6c(ss:List (List Int))(s:List Bool)(k:Nat):(rstep ss s k).length=s.length:=by
 unfold rstep;split<;>simp
theorem a3r(ss:List (List Int))(s:List Bool):∀k,(rsteps ss s k).length=s.length
 | 0=>rfl
 | k+1=>by rw[rsteps,b6c,a3r ss s k]
theorem a1n(ss:List (List Int)):∀n,(rrounds ss n).length=16
 | 0=>rfl
 | n+1=>by rw[rrounds,a3r,a1n ss n]
theorem a3x(ss:List (List Int)):(reachL ss).length=16:=a1n ss 16
theorem b7t{s:List Bool}{i n:Nat}(h:s.getD n false=true):(s.set i true).getD n false=true:=by
 rw[List.getD,List.getElem?_set]
 by_cases e:i=n
 ·subst e
  have hl:i<s.length:=by
   apply Classical.byContradiction;intro hl
   rw[List.getD,List.getElem?_eq_none (by omega)] at h;cases h
  rw[if_pos rfl,if_pos hl];rfl
 ·rw[if_neg e];exact h
theorem set_at{s:List Bool}{i:Nat}(h:i<s.length):(s.set i true).getD i false=true:=by
 rw[List.getD,List.getElem?_set,if_pos rfl,if_pos h];rfl
theorem set_or{s:List Bool}{i n:Nat}(h:(s.set i true).getD n false=true):s.getD n false=true∨n=i:=by
 by_cases e:i=n
 ·exact Or.inr e.symm
 ·rw[List.getD,List.getElem?_set,if_neg e] at h;exact Or.inl h
theorem b8c(ss:List (List Int)){s:List Bool}{k n:Nat}(h:s.getD n false=true):(rstep ss s k).getD n false=true:=by
 unfold rstep;split
 ·exact b7t h
 ·exact h
theorem a3p(ss:List (List Int)){s:List Bool}{n:Nat}:∀{j k:Nat},j≤k→(rsteps ss s j).getD n false=true→(rsteps ss s k).getD n false=true
 | j,0,hj,h=>by
  obtain rfl:j=0:=by omega
  exact h
 | j,k+1,hj,h=>by
  by_cases e:j=k+1
  ·subst e;exact h
  ·exact b8c ss (a3p ss (show j≤k by omega) h)
theorem b0s{ss:List (List Int)}{s:List Bool}{k n:Nat}(hk:k<24)(hs:∀n,s.getD n false=true→Reach ss (n:Int))(h:(rstep ss s k).getD n false=true):Reach ss (n:Int):=by
 unfold rstep at h;split at h
 ·rename_i hc
  rw[Bool.and_eq_true] at hc
  rcases set_or h with h|rfl
  ·exact hs n h
  ·have hu:=a1i (a3l hc.1)
   have hp:=hs _ hc.2
   rw[show (((entAt ss (k:Int)).parent.toNat:Nat):Int)=(entAt ss (k:Int)).parent by omega] at hp
   rw[show (((entAt ss (k:Int)).target.toNat:Nat):Int)=(entAt ss (k:Int)).target by omega]
   exact .step k hk hc.1 hp
 ·exact hs n h
theorem a5p{ss:List (List Int)}{s:List Bool}(hs:∀n:Nat,s.getD n false=true→Reach ss (n:Int)):∀k,k≤24→∀n:Nat,(rsteps ss s k).getD n false=true→Reach ss (n:Int)
 | 0,_=>hs
 | k+1,hk=>fun n h=>b0s (by omega) (a5p hs k (by omega)) h
theorem in0_at{n:Nat}(h:in0.getD n false=true):n=0:=by
 match n with
 | 0=>rfl
 | n+1 =>
  rw[in0,List.getD,List.getElem?_cons_succ,List.getElem?_replicate] at h
  split at h<;>cases h
theorem a4t(ss:List (List Int)):∀m n:Nat,(rrounds ss m).getD n false=true→Reach ss (n:Int)
 | 0,n,h=>by rw[in0_at h];exact .root
 | m+1,n,h=>a5p (a4t ss m) 24 (Nat.le_refl _) n h
def closedL(ss:List (List Int))(s:List Bool):Prop:=∀k,k<24→linkB ss k=true→s.getD (entAt ss (k:Int)).parent.toNat false=true→s.getD (entAt ss (k:Int)).target.toNat false=true
theorem a4c{ss:List (List Int)}{s:List Bool}(hc:closedL ss s)(hl:s.length=16):∀k,k≤24→rsteps ss s k=s
 | 0,_=>rfl
 | k+1,hk=>by
  rw[rsteps,a4c hc hl k (by omega)]
  unfold rstep;split
  ·rename_i h
   rw[Bool.and_eq_true] at h
   have ht:=hc k (by omega) h.1 h.2
   have hu:=a1i (a3l h.1)
   generalize (entAt ss (k:Int)).target.toNat=i at *
   refine List.ext_getElem (by simp) fun j h1 h2 => ?_
   rw[List.getElem_set]
   split
   ·rename_i e;subst e
    rw[List.getD,List.getElem?_eq_getElem h2] at ht
    exact ht.symm
   ·rfl
  ·rfl
theorem b6d{ss:List (List Int)}{s:List Bool}(hl:s.length=16)(h:∀n,n<16→(rsteps ss s 24).getD n false=true→s.getD n false=true):closedL ss s:=by
 intro k hk hlk hp
 have hu:=a1i (a3l hlk)
 refine h _ (by omega) (a3p ss (show k+1≤24 by omega) ?_)
 rw[rsteps,rstep,if_pos (by rw[hlk,Bool.true_and];exact a3p ss (j:=0) (Nat.zero_le _) hp)]
 exact set_at (by rw[a3r,hl];omega)
theorem a5l(ss:List (List Int)):∀m,closedL ss (rrounds ss m)∨m<cntU (fun n=>(rrounds ss m).getD n false) 16
 | 0=>Or.inr (show 0<cntU (fun n=>in0.getD n false) 16 by decide)
 | m+1=>by
  rcases a5l ss m with h|h
  ·exact Or.inl (by rw[rrounds,a4c h (a1n ss m) 24 (Nat.le_refl _)];exact h)
  ·by_cases hc:∀n,n<16→(rsteps ss (rrounds ss m) 24).getD n false=true→(rrounds ss m).getD n false=true
   ·have hcl:=b6d (a1n ss m) hc
    exact Or.inl (by rw[rrounds,a4c hcl (a1n ss m) 24 (Nat.le_refl _)];exact hcl)
   ·refine Or.inr (Nat.lt_of_le_of_lt (show m+1≤cntU (fun n=>(rrounds ss m).getD n false) 16 from h) (a8z (fun i _ hi=>a3p ss (j:=0) (Nat.zero_le _) hi) ?_))
    apply Classical.byContradiction;intro hno
    refine hc fun n hn h1 => ?_
    cases hb:(rrounds ss m).getD n false with
    | true=>rfl
    | false=>exact absurd ⟨n,hn,h1,hb⟩ hno
theorem a8l(ss:List (List Int)):closedL ss (reachL ss):=by
 rcases a5l ss 16 with h|h
 ·exact h
 ·have:=b4r (fun n=>(rrounds ss 16).getD n false) 16
  omega
theorem a5o(ss:List (List Int)):∀m,(rrounds ss m).getD 0 false=true
 | 0=>rfl
 | m+1=>a3p ss (j:=0) (Nat.zero_le _) (a5o ss m)
theorem b2x{ss:List (List Int)}{n:Int}(h:Reach ss n):reachB ss n=true:=by
 induction h with
 | root=>exact a5o ss 16
 | step k hk hl hp ih=>exact a8l ss k hk hl ih
theorem a5f{ss:List (List Int)}{n:Int}(h0:0≤n):reachB ss n=true↔Reach ss n :=
 ⟨fun h=>by have:=a4t ss 16 n.toNat h;rwa [show ((n.toNat:Nat):Int)=n by omega] at this,b2x⟩
def reachN(ss:List (List Int)):List Nat:=those (fun n=>reachB ss (n:Int)) 16
theorem a3s(p:Nat→Bool)(m:Nat):(those p m).length≤m:=by
 have:=List.length_filter_le p (List.range m)
 rwa [List.length_range] at this
def oddB(ss:List (List Int))(k:Nat):Bool := !entOfB (secAt ss (17+(k:Int)))
def dangB(ss:List (List Int))(k:Nat):Bool:=(entAt ss (k:Int)).used && decide (kindAt ss (entAt ss (k:Int)).target=0)
def lostB(ss:List (List Int))(k:Nat):Bool:=(entAt ss (k:Int)).used && (!reachB ss (entAt ss (k:Int)).parent || !decide (kindAt ss (entAt ss (k:Int)).parent=2))
def sameD(ss:List (List Int))(k j:Nat):Bool:=decide ((entAt ss (j:Int)).parent=(entAt ss (k:Int)).parent) && decide ((entAt ss (j:Int)).name=(entAt ss (k:Int)).name)
def sameL(ss:List (List Int))(k j:Nat):Bool:=decide ((entAt ss (j:Int)).target=(entAt ss (k:Int)).target)
def lowB(ss:List (List Int))(r:Nat→Nat→Bool)(k:Nat):Bool:=(entAt ss (k:Int)).used && (List.range k).any fun j=>(entAt ss (j:Int)).used && r k j
def dblB(ss:List (List Int)):Nat→Bool:=lowB ss (sameD ss)
def lnkB(ss:List (List Int)):Nat→Bool:=lowB ss (sameL ss)
def cntL(b:Int)(l:List Int):Nat:=(l.filter fun x=>decide (x=b)).length
def ownC(ss:List (List Int))(b:Nat):Nat→Nat
 | 0=>0
 | n+1=>ownC ss b n+if takenB ss (n:Int) then cntL (b:Int) (inoAt ss (n:Int)).b else 0
def shrB(ss:List (List Int))(b:Nat):Bool:=decide (1≤b) && decide (1<ownC ss b 16)
def pB(ss:List (List Int)):Nat→Nat→Bool
 | 0=>oddB ss
 | 1=>dangB ss
 | 2=>lostB ss
 | 3=>dblB ss
 | 4=>lnkB ss
 | _=>shrB ss
def pLim(i:Nat):Nat:=if i<5 then 24 else 25
def probK(ss:List (List Int))(i m:Nat):List (Nat×Nat):=(those (pB ss i) m).map fun n=>(i+1,n)
def probsU(ss:List (List Int)):Nat→List (Nat×Nat)
 | 0=>[]
 | i+1=>probsU ss i++probK ss i (pLim i)
def probs(ss:List (List Int)):List (Nat×Nat):=probsU ss 6
def cleanB(ss:List (List Int)):Bool:=(probs ss).isEmpty
end lk
namespace lk
set_option maxRecDepth 100000
open rows
open sec
open ly
structure Fnd (ss:List (List Int)) (L:List Int):Prop where
 nd:L.Nodup
 all:∀z∈L,Reach ss z
 root:(0:Int)∈L
theorem b7s{m:Nat}:∀{L:List Int},L.Nodup→(∀z∈L,0≤z∧z<(m:Int))→L.length≤m:=by
 induction m with
 | zero =>
  intro L _ h
  cases L with
  | nil=>exact Nat.le_refl _
  | cons a l=>have:=h a List.mem_cons_self;omega
 | succ m ih =>
  intro L hn h
  by_cases hm:(m:Int)∈L
  ·have h2:=ih (hn.erase (m:Int)) fun z hz=>by
    have h3:=(hn.mem_erase_iff).1 hz
    have:=h z h3.2
    have:=h3.1
    omega
   rw[List.length_erase_of_mem hm] at h2
   omega
  ·have h2:=ih hn fun z hz=>by
    have:=h z hz
    have:z≠(m:Int):=fun e=>hm (e▸hz)
    omega
   omega
theorem Fnd.len{ss:List (List Int)}{L:List Int}(h:Fnd ss L):L.length≤16:=b7s h.nd fun z hz=>a8o (h.all z hz)
theorem Fnd.one(ss:List (List Int)):Fnd ss [0]:=⟨by simp,fun z hz=>by rw[List.mem_singleton.1 hz];exact .root,by simp⟩
theorem Fnd.more{ss:List (List Int)}{L:List Int}(h:Fnd ss L){k:Nat}(hk:k<24)(hl:linkB ss k=true)(hp:(entAt ss (k:Int)).parent∈L)(hn:(entAt ss (k:Int)).target∉L):Fnd ss (L++[(entAt ss (k:Int)).target]):=by
 refine⟨?_,fun z hz => ?_,List.mem_append_left _ h.root⟩
 ·rw[List.nodup_append]
  exact⟨h.nd,by simp,fun a ha b hb e=>hn (by rw[List.mem_singleton.1 hb] at e;exact e▸ha)⟩
 ·rcases List.mem_append.1 hz with hz|hz
  ·exact h.all z hz
  ·rw[List.mem_singleton.1 hz]
   exact .step k hk hl (h.all _ hp)
def OutN(ss:List (List Int))(L:List Int)(n:Int)(pre:List Nat):Prop:=∀k∈pre,linkB ss k=true→(entAt ss (k:Int)).parent=n→(entAt ss (k:Int)).target∈L
def OutU(ss:List (List Int))(L:List Int)(i:Nat):Prop:=∀j,j<i→∀k,k<24→linkB ss k=true→(entAt ss (k:Int)).parent=L.getD j 0→(entAt ss (k:Int)).target∈L
theorem OutN.nil(ss:List (List Int))(L:List Int)(n:Int):OutN ss L n []:=fun k hk=>by cases hk
theorem OutN.same{ss:List (List Int)}{L:List Int}{n:Int}{pre:List Nat}{k:Nat}(h:OutN ss L n pre)(hk:linkB ss k=true→(entAt ss (k:Int)).parent=n→(entAt ss (k:Int)).target∈L):OutN ss L n (pre++[k]):=fun j hj=>by
 rcases List.mem_append.1 hj with hj|hj
 ·exact h j hj
 ·rw[List.mem_singleton.1 hj];exact hk
theorem OutN.grow{ss:List (List Int)}{L:List Int}{n z:Int}{pre:List Nat}(h:OutN ss L n pre):OutN ss (L++[z]) n pre:=fun j hj hl hp=>List.mem_append_left _ (h j hj hl hp)
theorem OutU.grow{ss:List (List Int)}{L:List Int}{z:Int}{i:Nat}(h:OutU ss L i)(hi:i≤L.length):OutU ss (L++[z]) i:=fun j hj k hk hl hp=>List.mem_append_left _ (h j hj k hk hl (by
 rw[List.getD,List.getElem?_append_left (by omega)] at hp
 exact hp))
theorem OutU.next{ss:List (List Int)}{L:List Int}{i:Nat}(h:OutU ss L i)(hn:OutN ss L (L.getD i 0) (those (fun k=>(entAt ss (k:Int)).used) 24)):OutU ss L (i+1):=fun j hj k hk hl hp=>by
 by_cases e:j=i
 ·subst e
  exact hn k (those_mem.2 ⟨hk,a3l hl⟩) hl hp
 ·exact h j (by omega) k hk hl hp
theorem OutU.skip{ss:List (List Int)}{L:List Int}{i:Nat}(h:OutU ss L i)(hn:kindAt ss (L.getD i 0)≠2):OutU ss L (i+1):=fun j hj k hk hl hp=>by
 by_cases e:j=i
 ·subst e
  rw[linkB,Bool.and_eq_true,Bool.and_eq_true,decide_eq_true_eq,hp] at hl
  exact absurd hl.2.1 hn
 ·exact h j (by omega) k hk hl hp
theorem fnd_all{ss:List (List Int)}{L:List Int}(h:Fnd ss L)(ho:OutU ss L L.length){z:Int}(hz:Reach ss z):z∈L:=by
 induction hz with
 | root=>exact h.root
 | step k hk hl hp ih =>
  obtain⟨j,hj,e⟩:=List.mem_iff_getElem.1 ih
  exact ho j hj k hk hl (by rw[List.getD,List.getElem?_eq_getElem hj];exact e.symm)
theorem a7k:∀{A B:List Int},A.Pairwise (· < ·)→B.Pairwise (· < ·)→(∀z,z∈A↔z∈B)→A=B
 | [],[],_,_,_=>rfl
 | [],b::B,_,_,h=>by have:=(h b).2 List.mem_cons_self;cases this
 | a::A,[],_,_,h=>by have:=(h a).1 List.mem_cons_self;cases this
 | a::A,b::B,hA,hB,h=>by
  have hA2:=List.pairwise_cons.1 hA
  have hB2:=List.pairwise_cons.1 hB
  have e:a=b:=by
   rcases List.mem_cons.1 ((h a).1 List.mem_cons_self) with e|h1
   ·exact e
   ·rcases List.mem_cons.1 ((h b).2 List.mem_cons_self) with e|h2
    ·exact e.symm
    ·have:=hA2.1 b h2;have:=hB2.1 a h1;omega
  subst e
  rw[a7k hA2.2 hB2.2 fun z=>⟨fun hz => ?_,fun hz => ?_⟩]
  ·rcases List.mem_cons.1 ((h z).1 (List.mem_cons_of_mem _ hz)) with e|h1
   ·subst e;have:=hA2.1 z hz;omega
   ·exact h1
  ·rcases List.mem_cons.1 ((h z).2 (List.mem_cons_of_mem _ hz)) with e|h1
   ·subst e;have:=hB2.1 z hz;omega
   ·exact h1
def reachI(ss:List (List Int)):List Int:=(reachN ss).map fun n:Nat=>(n:Int)
theorem a7o{ss:List (List Int)}{z:Int}:z∈reachI ss↔Reach ss z:=by
 constructor
 ·intro h
  obtain⟨n,hn,rfl⟩:=List.mem_map.1 h
  exact(a5f (by omega)).1 (those_mem.1 hn).2
 ·intro h
  have h2:=a8o h
  refine List.mem_map.2 ⟨z.toNat,those_mem.2 ⟨by omega,?_⟩,by omega⟩
  rw[show ((z.toNat:Nat):Int)=z by omega]
  exact(a5f h2.1).2 h
theorem b1i(ss:List (List Int)):(reachI ss).Pairwise (· < ·):=by
 rw[reachI,List.pairwise_map]
 have h:(List.range 16).Pairwise (· < ·):=List.pairwise_lt_range
 exact(h.sublist (List.filter_sublist (p:=fun n:Nat=>reachB ss (n:Int)))).imp fun {a b} h=>by omega
theorem b3n{ss:List (List Int)}{L:List Int}(h:Fnd ss L)(ho:OutU ss L L.length):(L.mergeSort fun x y=>decide (x≤y))=reachI ss:=by
 refine a7k ?_ (b1i ss) fun z => ?_
 ·have hp:(L.mergeSort fun x y=>decide (x≤y)).Pairwise fun a b=>decide (a≤b)=true:=List.pairwise_mergeSort (fun a b c h1 h2=>by simp only[decide_eq_true_eq] at *;omega) (fun a b=>by simp only[Bool.or_eq_true,decide_eq_true_eq];omega) L
  have hn:(L.mergeSort fun x y=>decide (x≤y)).Nodup:=(List.mergeSort_perm L _).nodup_iff.2 h.nd
  exact hp.imp₂ (fun a b h1 h2=>by simp only[decide_eq_true_eq] at h1;omega) hn
 ·rw[List.mem_mergeSort,a7o]
  exact⟨h.all z,fnd_all h ho⟩
theorem b4g(ss:List (List Int)):(reachI ss).length≤16:=by rw[reachI,List.length_map];exact a3s _ _
theorem b3w{ss:List (List Int)}{z:Int}(h0:0≤z):(reachI ss).contains z=reachB ss z:=by
 rw[Bool.eq_iff_iff,List.contains_iff_mem,a7o,a5f h0]
end lk
namespace lk
set_option maxRecDepth 100000
open Go.ChangeShapes Go.WideShapes Go.ChangeAt Go.RowKit
open rows
open sec
open dsk (a0o a0c a0h)
open ly
open al
theorem b6k:(Tryz.prog.info? 56).map (·.size)=some 16:=by kernel_rfl
def AtN(w:World)(g:Nat)(l:List Bool):Prop:=w.heap[g]? = some (.cells (boolsV l).toArray 56 (0,0))
theorem AtN.later{w w':World}{g:Nat}{l:List Bool}(h:AtN w g l)(k:Below w.heap.size w w'):AtN w' g l:=(k.block g (Array.getElem?_eq_some_iff.1 h).1).trans h
theorem AtN.lt{w:World}{g:Nat}{l:List Bool}(h:AtN w g l):g<w.heap.size:=(Array.getElem?_eq_some_iff.1 h).1
theorem b5b(w:World)(l:List Bool):AtN (w.alloc (.cells (boolsV l).toArray 56)) w.heap.size l:=heap_alloc_new _ _
def marksN:List Bool:=List.replicate 16 false
theorem lit_n:(#[.bool false,.bool false,.bool false,.bool false,.bool false,.bool false,.bool false,.bool false,.bool false,.bool false,.bool false,.bool false,.bool false,.bool false,.bool false,.bool false]:Array Value)=(boolsV marksN).toArray:=by kernel_rfl
theorem a8t(w:World):AtN (w.alloc (.cells #[.bool false,.bool false,.bool false,.bool false,.bool false,.bool false,.bool false,.bool false,.bool false,.bool false,.bool false,.bool false,.bool false,.bool false,.bool false,.bool false] 56)) w.heap.size marksN:=by
 rw[lit_n]
 exact b5b w marksN
theorem AtN.cell{w:World}{g:Nat}{l:List Bool}(h:AtN w g l){k:Nat}(hk:k<l.length):w.cell? ⟨g,k,none⟩=some (.bool (l.getD k false)) :=
 a0c h k _ (by simp[boolsV,List.getD,hk])
theorem AtN.frozen{w:World}{g:Nat}{l:List Bool}(h:AtN w g l)(k:Nat):w.frozen? ⟨g,k,none⟩=false:=a0h h k
theorem AtN.set{w:World}{g:Nat}{l:List Bool}(h:AtN w g l)(k:Nat)(b:Bool):AtN (w.setCell ⟨g,k,none⟩ (.bool b)) g (l.set k b):=by
 unfold AtN
 rw[a0o h]
 congr 2
 simp[boolsV,List.map_set]
theorem b6u{ops:Array Oper}{rest:List Oper}{o:Oper}{a:Act}{w:World}{Q:Exit→Act→World→Prop}(hgd:o.guard=none)(x:Operand)(ho:o.op = .load 56 x)
  (g:Nat) (hx:a.eval x = .pointer (some ⟨g,0,none⟩)) (l:List Bool) (hs:l.length=16) (hg:AtN w g l)
  (h:wpList Tryz.prog ops Q rest (a.put o.dst (aggM l)) w):wpList Tryz.prog ops Q (o::rest) a w :=
 wpList_load_row hgd 56 x ho g hx 56 _ _ _ hg Tryz.underlying56 rfl (by rw[b6k];simp[boolsV,hs]) h
theorem a8u{ops:Array Oper}{rest:List Oper}{o:Oper}{a:Act}{w:World}{Q:Exit→Act→World→Prop}(hgd:o.guard=none)(x y:Operand)(ho:o.op = .store 56 x y)(hd:o.dst=none)
  (g:Nat) (s old:List Bool) (hx:a.eval x = .pointer (some ⟨g,0,none⟩)) (hy:a.eval y=aggM s) (hs:s.length=16) (hold:old.length=16) (hg:AtN w g old)
  (h:∀w',AtN w' g s→Below g w w'→wpList Tryz.prog ops Q rest a w'):wpList Tryz.prog ops Q (o::rest) a w:=by
 have hl:(boolsV s).toArray.size=16:=by simp[boolsV,hs]
 refine wpList_store_row hgd 56 x y ho g (boolsV s).toArray hx hy 56 _ hg (by rw[b6k,hl]) (by simp[boolsV,hs,hold]) (by simp only[List.all_toArray];exact List.all_eq_true.2 (b3v s)) ?_
 rw[hd]
 exact h _ (setRow_heap w g _ _ _ _ hg) ((Below.refl g w).trans ⟨rfl,rfl,rfl,by simp[World.setRow],fun k hk=>setRow_other w g k _ (by omega)⟩)
theorem ret_n{fn:Func}{p:Tmp}{R:Ending→World→Prop}{a:Act}{w:World}(h:fn.results = #[.cell p 56])(g:Nat)(s:List Bool)(hp:a.tmps.getD p undef = .pointer (some ⟨g,0,none⟩))(hs:s.length=16)(hg:AtN w g s)
  (hd:a.defers=[]) (hR:R (.returned (aggM s)) w):bodyPost Tryz.prog fn R .ret a w :=
 bodyPost_ret (results_cell_row h a.tmps w g _ _ _ _ hp hg Tryz.underlying56 rfl (by rw[b6k];simp[boolsV,hs])) hd hR
end lk
namespace lk
set_option maxRecDepth 100000
open Go.ChangeShapes Go.WideShapes Go.ChangeAt Go.RowKit
open rows
open sec
open dsk (wf64)
open ly
open al
open fs (a1i)
theorem b6r:Elem 34 3 1 8 (.int .i64 0):=⟨Tryz.underlying34,by kernel_rfl,by decide,by decide,by decide⟩
theorem AtN.other{w:World}{g k j:Nat}{l:List Bool}(h:AtN w k l)(hk:k≠g)(v:Value):AtN (w.setCell ⟨g,j,none⟩ v) k l:=(Below.heap_setCell _ _ _ _ hk).trans h
structure MarkN (w:World) (l:List Bool) (wr:World):Prop where
 res:AtN wr w.heap.size marksN
 row:AtN wr (w.heap.size+1) l
 below:Below w.heap.size w wr
theorem MarkN.later{w:World}{l:List Bool}{a b:World}(h:MarkN w l a)(k:Below a.heap.size a b):MarkN w l b:=⟨h.res.later k,h.row.later k,a0b h.below k⟩
theorem MarkN.set{w:World}{l:List Bool}{a:World}(h:MarkN w l a)(k:Nat):MarkN w (l.set k true) (a.setCell ⟨w.heap.size+1,k,none⟩ (.bool true)) :=
 ⟨h.res.other (by omega) _,h.row.set k true,h.below.setCell (p:=⟨w.heap.size+1,k,none⟩) (Nat.le_succ _) _⟩
theorem b8f{ss:List (List Int)}{s:List Bool}{k:Nat}{x:Ent}(he:entAt ss (k:Int)=x){b:Bool}(hb:(linkB ss k && s.getD x.parent.toNat false)=b):rstep ss s k=if b then s.set x.target.toNat true else s:=by
 rw[rstep,he,hb]
set_option maxRecDepth 100000 in
set_option maxHeartbeats 3200000 in
theorem a5w(p:Option Addr)(n c:Nat)(ss:List (List Int))(w:World)(h:Rd w 32 (.slice p n c) n (cellsOf ss))(hs:Secs ss)(hn:n≤100000) :
  Calls Tryz.prog 18 #[.slice p n c] w (Rt w (aggM (reachL ss))):=by
 have HI:=ι fun(i:Int) (hi:wf64 i) w' (hb:Below w.heap.size w w')=>a6e p n c ss w' (h.later hb) hs hn i hi
 have HE:=ι fun(k:Nat) (hk:k≤24) w' (hb:Below w.heap.size w w')=>a2b p n c ss w' (h.later hb) hs hn (k:Int) (WalkArith.wf_i64 (by omega))
 have H4:=ι fun i=>a1g hs i
 have A0:=a8t w
 obtain⟨W1,hW1⟩:∃W1,w.alloc (.cells #[.bool false,.bool false,.bool false,.bool false,.bool false,.bool false,.bool false,.bool false,.bool false,.bool false,.bool false,.bool false,.bool false,.bool false,.bool false,.bool false] 56)=W1:=⟨_,rfl⟩
 have hz1:W1.heap.size=w.heap.size+1:=by rw[← hW1];simp
 have A1:=a8t W1
 obtain⟨W2,hW2⟩:∃W2,W1.alloc (.cells #[.bool false,.bool false,.bool false,.bool false,.bool false,.bool false,.bool false,.bool false,.bool false,.bool false,.bool false,.bool false,.bool false,.bool false,.bool false,.bool false] 56)=W2:=⟨_,rfl⟩
 have M0:Hid (MarkN w marksN W2):=ι (by
  have hb1:Below w.heap.size w W1:=by rw[← hW1];exact a0a (Below.refl _ _) _
  have hb2:Below W1.heap.size W1 W2:=by rw[← hW2];exact a0a (Below.refl _ _) _
  rw[hW1] at A0
  rw[hW2,hz1] at A1
  exact⟨A0.later hb2,A1,a0b hb1 hb2⟩)
 clear h hs A0 A1
 go_enter Tryz.func18,Tryz.ntmps18
 go_upto_region 2 with(first|(refine a8u rfl (.tmp 3) (.tmp 7) rfl rfl (w.heap.size+1) in0 marksN rfl (by kernel_rfl) rfl rfl M0.out.row ?_;intro w3 hA hB;have M3:Hid (MarkN w in0 w3):=ι ⟨(hB.block _ (Nat.lt_succ_self _)).trans M0.out.res,hA,M0.out.below.trans (hB.mono (Nat.le_succ _))⟩;clear hA hB))
 clear hW1 hW2 M0
 go_wp2_with fail
 go_loopw [4] (fun av wr=>∃a:Nat,a≤16∧av = .int .i64 (a:Int)∧Hid (MarkN w (rrounds ss a) wr)) (fun av _=>16-(intOf av).toNat)
 case atStart=>exact⟨0,by omega,rfl,M3⟩
 case round =>
  obtain⟨a,ha,rfl,HM⟩:=hrel
  clear M3
  by_cases hlt:a<16
  ·have hlti:(a:Int)<16:=by omega
   have HM0:Hid (MarkN w (rsteps ss (rrounds ss a) 0) wr):=HM
   have HRL:=ι (a1n ss a)
   have HNX:Hid (rrounds ss (a+1)=rsteps ss (rrounds ss a) 24):=ι rfl
   generalize rrounds ss a=s0 at *
   clear HM
   go_wp2_with fail
   go_loopw [5] (fun kv wr=>∃k:Nat,k≤24∧kv = .int .i64 (k:Int)∧Hid (MarkN w (rsteps ss s0 k) wr)) (fun kv _=>24-(intOf kv).toNat)
   case atStart=>exact⟨0,by omega,rfl,HM0⟩
   case round =>
    clear HM0
    obtain⟨k,hk,rfl,HM⟩:=hrel
    by_cases hkl:k<24
    ·have hkli:(k:Int)<24:=by omega
     have HEk:=ι (HE.out k (by omega) wr HM.out.below)
     have HSL:Hid ((rsteps ss s0 k).length=16):=ι (by rw[a3r,HRL.out])
     have HN1:Hid (rsteps ss s0 (k+1)=rstep ss (rsteps ss s0 k) k):=ι rfl
     have HLB:Hid (linkB ss k=((entAt ss (k:Int)).used && (decide (kindAt ss (entAt ss (k:Int)).parent=2) && !decide (kindAt ss (entAt ss (k:Int)).target=0)))):=ι rfl
     have HEU:=ι fun(hu:(entAt ss (k:Int)).used=true)=>a1i hu
     have HST:=ι fun b hb=>b8f (ss:=ss) (s:=rsteps ss s0 k) (k:=k) (x:=entAt ss (k:Int)) rfl (b:=b) hb
     generalize rsteps ss s0 k=sk at *
     generalize linkB ss k=lb at *
     generalize entAt ss (k:Int)=x at *
     obtain⟨u,pa,nm,tg⟩:=x
     simp only at HEk HLB HEU HST
     cases u with
     | false =>
      have HS:Hid (rsteps ss s0 (k+1)=sk):=ι (by rw[HN1.out,HST.out false (by rw[HLB.out];rfl)];rfl)
      clear HLB HEU HST HN1
      go_wp2_with (go_at_call 39;refine HEk.out.mono ?_;rintro e w1 ⟨rfl,hb⟩;have M1:=ι (HM.out.later hb);clear hb)
      go_roundw
      case rel=>exact⟨k+1,by omega,by go_num,by rw[HS.out];exact ι (M1.out.later (a0a (Below.refl _ _) _))⟩
      case measure=>simp[intOf];omega
     | true =>
      obtain⟨e1,e2,e3,e4,_⟩:=HEU.out rfl
      clear HEU
      obtain⟨pn,rfl⟩:=Int.eq_ofNat_of_zero_le e1
      obtain⟨tn,rfl⟩:=Int.eq_ofNat_of_zero_le (show 0≤tg by omega)
      have HIp:=ι fun w' hb=>HI.out (pn:Int) (a0l (by omega)) w' hb
      have HIt:=ι fun w' hb=>HI.out (tn:Int) (a0l (by omega)) w' hb
      have hfp:=fun v=>fieldI0 _ (H4.out (pn:Int)) v
      have hft:=fun v=>fieldI0 _ (H4.out (tn:Int)) v
      have HKP:Hid ((inoAt ss (pn:Int)).kind=kindAt ss (pn:Int)):=ι rfl
      have HKT:Hid ((inoAt ss (tn:Int)).kind=kindAt ss (tn:Int)):=ι rfl
      generalize inoAt ss (pn:Int)=yp at *
      generalize inoAt ss (tn:Int)=yt at *
      rw[HKP.out] at hfp
      rw[HKT.out] at hft
      generalize kindAt ss (pn:Int)=kp at *
      generalize kindAt ss (tn:Int)=kt at *
      generalize aggI yp=ap at *
      generalize aggI yt=at_ at *
      clear HKP HKT
      go_upto_region 9 with(go_at_call 39;refine HEk.out.mono ?_;rintro e w1 ⟨rfl,hb⟩;have M1:=ι (HM.out.later hb);clear hb)
      have M2:=ι (M1.out.later (a0a (Below.refl _ w1) (.cells #[.bool true,.int .i64 (pn:Int),.string nm,.int .i64 (tn:Int)] 65)))
      have A2:=a1t w1 ⟨true,(pn:Int),nm,(tn:Int)⟩
      have hzz:w.heap.size+1<w1.heap.size:=M1.out.row.lt
      generalize hg2:w1.heap.size=g2 at *
      generalize w1.alloc (.cells #[.bool true,.int .i64 (pn:Int),.string nm,.int .i64 (tn:Int)] 65)=w2 at *
      have x0:=A2.cell0
      have x1:=A2.cell1
      have x3:=A2.cell3
      have hpn:pn<16:=by omega
      have htn:tn<16:=by omega
      have hpi:(pn:Int)<16:=by omega
      have hti:(tn:Int)<16:=by omega
      have hcm:=M2.out.row.cell (k:=pn) (by rw[HSL.out];exact hpn)
      have HA2:=ι A2
      clear e1 e2 e3 e4 A2
      simp only at x0 x1 x3
      have HTN:Hid (((tn:Int)).toNat=tn):=ι (by omega)
      have HPN:Hid (((pn:Int)).toNat=pn):=ι (by omega)
      rw[HPN.out,HTN.out] at HST
      cases hmk:sk.getD pn false with
      | false =>
       rw[hmk] at hcm
       have HS:Hid (rsteps ss s0 (k+1)=sk):=ι (by rw[HN1.out,HST.out false (by rw[hmk,Bool.and_false])];rfl)
       clear HLB HST HN1 hmk
       go_wp2_with fail
       go_roundw
       case rel=>exact⟨k+1,by omega,by go_num,by rw[HS.out];exact M2⟩
       case measure=>simp[intOf];omega
      | true =>
       rw[hmk] at hcm
       by_cases hkp:kp=2
       ·subst hkp
        by_cases hkt:kt=0
        ·subst hkt
         have HS:Hid (rsteps ss s0 (k+1)=sk):=ι (by rw[HN1.out,HST.out false (by rw[HLB.out];rfl)];rfl)
         clear HLB HST HN1 hmk
         go_wp2_with (first|(go_at_call 40;(with_reducible refine(HIp.out _ M2.out.below).mono ?_);rintro e w3 ⟨rfl,hb⟩;have M3:=ι (M2.out.later hb);have A3:=ι (HA2.out.later hb);have y3:w3.cell? ⟨g2,3,none⟩=some (.int .i64 (tn:Int)):=A3.out.cell3;clear hb)|(go_at_call 40;(with_reducible refine(HIt.out _ M3.out.below).mono ?_);rintro e w4 ⟨rfl,hb⟩;have M4:=ι (M3.out.later hb);have A4:=ι (A3.out.later hb);have y4:w4.cell? ⟨g2,3,none⟩=some (.int .i64 (tn:Int)):=A4.out.cell3;have hc4:=M4.out.row.cell (k:=tn) (by rw[HSL.out];exact htn);have hf4:=M4.out.row.frozen tn;clear hb))
         go_roundw
         case rel=>exact⟨k+1,by omega,by go_num,by rw[HS.out];exact M4⟩
         case measure=>simp[intOf];omega
        ·have hktb:(kt != 0)=true:=by simpa using hkt
         have HS:Hid (rsteps ss s0 (k+1)=sk.set tn true):=ι (by rw[HN1.out,HST.out true (by rw[HLB.out,hmk,decide_eq_false hkt];rfl)];rfl)
         clear HLB HST HN1 hmk hkt
         go_wp2_with (first|(go_at_call 40;(with_reducible refine(HIp.out _ M2.out.below).mono ?_);rintro e w3 ⟨rfl,hb⟩;have M3:=ι (M2.out.later hb);have A3:=ι (HA2.out.later hb);have y3:w3.cell? ⟨g2,3,none⟩=some (.int .i64 (tn:Int)):=A3.out.cell3;clear hb)|(go_at_call 40;(with_reducible refine(HIt.out _ M3.out.below).mono ?_);rintro e w4 ⟨rfl,hb⟩;have M4:=ι (M3.out.later hb);have A4:=ι (A3.out.later hb);have y4:w4.cell? ⟨g2,3,none⟩=some (.int .i64 (tn:Int)):=A4.out.cell3;have hc4:=M4.out.row.cell (k:=tn) (by rw[HSL.out];exact htn);have hf4:=M4.out.row.frozen tn;clear hb))
         go_roundw
         case rel=>exact⟨k+1,by omega,by go_num,by rw[HS.out];exact ι (M4.out.set tn)⟩
         case measure=>simp[intOf];omega
       ·have hkpb:(kp == 2)=false:=by simpa using hkp
        have HS:Hid (rsteps ss s0 (k+1)=sk):=ι (by rw[HN1.out,HST.out false (by rw[HLB.out,decide_eq_false hkp];rfl)];rfl)
        clear HLB HST HN1 hmk hkp
        go_wp2_with (first|(go_at_call 40;(with_reducible refine(HIp.out _ M2.out.below).mono ?_);rintro e w3 ⟨rfl,hb⟩;have M3:=ι (M2.out.later hb);have A3:=ι (HA2.out.later hb);have y3:w3.cell? ⟨g2,3,none⟩=some (.int .i64 (tn:Int)):=A3.out.cell3;clear hb)|(go_at_call 40;(with_reducible refine(HIt.out _ M3.out.below).mono ?_);rintro e w4 ⟨rfl,hb⟩;have M4:=ι (M3.out.later hb);have A4:=ι (A3.out.later hb);have y4:w4.cell? ⟨g2,3,none⟩=some (.int .i64 (tn:Int)):=A4.out.cell3;have hc4:=M4.out.row.cell (k:=tn) (by rw[HSL.out];exact htn);have hf4:=M4.out.row.frozen tn;clear hb))
        go_roundw
        case rel=>exact⟨k+1,by omega,by go_num,by rw[HS.out];exact M3⟩
        case measure=>simp[intOf];omega
    ·obtain rfl:k=24:=by omega
     go_wp2_with fail
     go_roundw
     case rel=>exact⟨a+1,by omega,by go_num,by rw[HNX.out];exact HM⟩
     case measure=>simp[intOf];omega
  ·obtain rfl:a=16:=by omega
   have HRL:Hid ((reachL ss).length=16):=ι (a3x ss)
   have HM2:Hid (MarkN w (reachL ss) wr):=HM
   clear HM
   obtain⟨s0,hs0⟩:∃s0,reachL ss=s0:=⟨_,rfl⟩
   rw[hs0] at HRL HM2
   have HS0:=ι hs0
   clear hs0
   go_wp2_with (first|(refine b6u rfl (.tmp 3) rfl (w.heap.size+1) rfl s0 HRL.out HM2.out.row ?_)|(refine a8u rfl (.tmp 2) (.tmp 46) rfl rfl w.heap.size s0 marksN rfl rfl HRL.out (by decide) HM2.out.res ?_;intro w4 hA hB;have A4:=ι hA;have B4:=ι (HM2.out.below.trans hB);clear hA hB))
   exact ret_n rfl w.heap.size s0 rfl HRL.out A4.out rfl ⟨by rw[HS0.out],B4.out⟩
set_option maxRecDepth 100000 in
set_option maxHeartbeats 1600000 in
theorem a9l(p:Option Addr)(n c:Nat)(ss:List (List Int))(w:World)(h:Rd w 32 (.slice p n c) n (cellsOf ss))(hs:Secs ss)(hn:n≤100000) :
  Calls Tryz.prog 12 #[.slice p n c] w fun e w'=>∃q k,e = .returned (.slice q (reachN ss).length k)∧Rd w' 1 (.slice q (reachN ss).length k) (reachN ss).length (i64s ((reachN ss).map fun n:Nat=>(n:Int)))∧Below w.heap.size w w':=by
 have HR:=ι (a5w p n c ss w h hs hn)
 have HRL:=ι (a3x ss)
 have HRB:=ι fun k:Nat=>(show (fun n:Nat=>reachB ss (n:Int)) k=(reachL ss).getD k false from rfl)
 have HRN:Hid (reachN ss=those (fun n=>reachB ss (n:Int)) 16):=ι rfl
 generalize reachN ss=rn at *
 generalize (fun n:Nat=>reachB ss (n:Int))=pr at *
 generalize reachL ss=s0 at *
 clear h hs
 go_enter Tryz.func12,Tryz.ntmps12
 go_wp2_with (first|(go_at_call 18;refine HR.out.mono ?_;rintro e w1 ⟨rfl,hb⟩;have B1:=ι hb;clear hb)|(refine a8u rfl (.tmp 4) (.tmp 7) rfl rfl w1.heap.size s0 marksN rfl rfl HRL.out (by decide) (a8t w1) ?_;intro w2 hA hB;have A2:=ι hA;have B2:=ι (a0b B1.out ((a0a (Below.refl _ w1) _).trans hB));clear hA hB))
 go_loopw [3,5] (fun lv iv wr=>∃(j:Nat) (q:Option Addr) (k:Nat),j≤16∧iv = .int .i64 (j:Int)∧lv = .slice q (those pr j).length k∧Hid (rows.Own wr w2.heap.size 3 1 (.slice q (those pr j).length k) (those pr j).length (i64s ((those pr j).map fun n:Nat=>(n:Int))))∧Hid (Below w2.heap.size w2 wr)) (fun _ iv _=>16-(intOf iv).toNat)
 case atStart=>exact⟨0,none,0,by omega,rfl,rfl,ι (a3m _ _ _ _),ι (Below.refl _ _)⟩
 case round =>
  obtain⟨j,q,k,hj,rfl,rfl,HO,HB⟩:=hrel
  by_cases hlt:j<16
  ·have hlti:(j:Int)<16:=by omega
   have hcm:=(A2.out.later HB.out).cell (k:=j) (by rw[HRL.out];exact hlt)
   have hpj:=HRB.out j
   have hfl:=a3s pr j
   have HNY:=ι fun h=>a1w (p:=pr) (k:=j) h
   have HNN:=ι fun h=>a2r (p:=pr) (k:=j) h
   generalize those pr j=tj at *
   obtain⟨m,hm⟩:∃m,tj.length=m:=⟨_,rfl⟩
   have HM:=ι hm
   rw[hm] at HO hfl ⊢
   rw[← hpj] at hcm
   clear hpj hm
   cases hb:pr j with
   | false =>
    rw[hb] at hcm
    have HS:=ι (HNN.out hb)
    clear HNN HNY hb
    go_wp2_with fail
    go_roundw
    case rel=>exact⟨j+1,q,k,by omega,by go_num,by rw[HS.out,HM.out],by rw[HS.out,HM.out];exact HO,HB⟩
    case measure=>simp[intOf];omega
   | true =>
    rw[hb] at hcm
    have HS:=ι (HNY.out hb)
    clear HNN HNY hb
    go_wp2_with (at_builtin;refine b4c b6r rfl (.tmp 15) (.tmp 17) rfl w2.heap.size _ m _ rfl (HO.out.alloc _) _ 1 [.int .i64 (j:Int)] rfl (b8l _ _ 1 #[.int .i64 (j:Int)] rfl) (by simp[Value.oneCell']) (by omega) (by have:=HB.out.size;simp;omega) ?_;intro pa ca wa ho hb;have HO2:=ι ho;have HBa:=ι ((a0a HB.out _).trans hb);clear ho hb)
    go_roundw
    case rel=>exact⟨j+1,pa,ca,by omega,by go_num,by rw[HS.out];simp[HM.out],by rw[HS.out];simp only[List.length_append,List.length_cons,List.length_nil,HM.out,List.map_append,List.map_cons,List.map_nil,i64s];exact HO2,HBa⟩
    case measure=>simp[intOf];omega
  ·obtain rfl:j=16:=by omega
   rw[← HRN.out] at HO ⊢
   go_wp2_with fail
   go_ret
   exact⟨q,k,rfl,HO.out.rd,a0b B2.out HB.out⟩
end lk
namespace lk
set_option maxRecDepth 100000
open Go.ChangeShapes Go.WideShapes Go.ChangeAt Go.RowKit
open rows
open sec
open dsk (wf64)
open ly
open rng
attribute [local go_sem] Oper.semAt_some
theorem a6w(w:World)(d:Value)(ss:List (List Int))(i:Int)(h:Dk w d ss)(hi:wf64 i):Calls Tryz.prog 21 #[d,.int .i64 i] w (Rt w (.int .i64 (kindAt ss i))):=by
 have HI:=ι (b2m w d ss i h hi)
 have hf:=fun v=>fieldI0 _ (a1g h.secs.1 i) v
 have HK:Hid ((inoAt ss i).kind=kindAt ss i):=ι rfl
 generalize inoAt ss i=y at *
 rw[HK.out] at hf
 generalize aggI y=ay at *
 generalize kindAt ss i=kd at *
 clear h hi HK
 go_enter Tryz.func21,Tryz.ntmps21
 go_wp2_with (go_at_call 43;refine HI.out.mono ?_;rintro e w2 ⟨rfl,hb⟩;have B2:=ι hb;clear hb)
 go_ret
 exact⟨rfl,B2.out⟩
theorem a3a(p:Option Addr)(w:World):Calls Tryz.prog 22 #[.pointer p] w fun e w'=>e = .returned (.func (.func 44) #[] #[.pointer (some ⟨w.heap.size,0,none⟩)])∧w'=w.alloc (.cells #[.pointer p] 25):=by
 go_enter Tryz.func22,Tryz.ntmps22
 go_wp2
 go_ret
 exact⟨rfl,rfl⟩
set_option maxRecDepth 100000 in
set_option maxHeartbeats 2000000 in
theorem a2z(soft:Obj→Prop)(w0:World)(d:Value)(ss:List (List Int))(hd:Dk w0 d ss)(bd:Nat)(m:Nat→Obj→Prop)(w:World)(hb:Below w0.heap.size w0 w)(hbox:Go.Boxed w bd 25 d)(hZ:∀b o,m b o→w0.heap.size≤b)(hZd:∀v,¬m bd (.cells #[v] 25 (0,0))) :
  Seq Tryz.prog 44 #[.pointer (some ⟨bd,0,none⟩)] (fun k:Nat => #[.int .i64 (k:Int),aggE (entAt ss (k:Int))]) soft m (fun ys=>ys=those (entB ss) 24) (fun pre=>pre <+: those (entB ss) 24) w:=by
 intro l J Jx W hW _ hJ hJx hY h0
 have HJ:=ι hJ
 have HY:=ι hY
 have HZ:=ι hZ
 have HZD:=ι hZd
 have HB0:Hid (Below w0.heap.size w0 W):=ι (hb.trans (hW.mono hb.size))
 have HX0:Hid (Go.Boxed W bd 25 d):=ι ((hW.block _ hbox.lt).trans hbox)
 have H0:=ι h0
 have HE:=ι fun(k:Nat) (hk:k<24) w' (h:Below w0.heap.size w0 w')=>b2k w' d ss (k:Int) (hd.later h) (a0l (by omega))
 clear hJ hY hZ hZd hb hW hbox h0 hd hJx
 refine(callsIn_wide (n:=10)).1 (callsIn_of_wp Tryz.func44 rfl trivial ?_ rfl)
 simp only[Tryz.ntmps44,List.size_toArray,List.length_cons,List.length_nil,Nat.reduceAdd,Nat.reduceSub,Array.replicate_succ,Array.replicate_zero,List.push_toArray,List.append_toArray,List.nil_append,List.cons_append]
 gi_wp2
 gi_loopw [5] (fun kv wr=>∃k:Nat,k≤24∧kv = .int .i64 (k:Int)∧Hid (J (those (entB ss) k) wr)∧Hid (Below w0.heap.size w0 wr)∧Hid (Go.Boxed wr bd 25 d)∧Hid (W.heap.size≤wr.heap.size))
  (fun kv _=>24-(intOf kv).toNat)
 case atStart=>exact⟨0,Nat.zero_le _,rfl,H0,HB0,HX0,ι (Nat.le_refl _)⟩
 case round =>
  obtain⟨k,hk,rfl,HJS,HB,HX,HS⟩:=hrel
  by_cases hlt:k<24
  ·have hlt1:(k:Int)<24:=by omega
   have HEk:=ι (HE.out k hlt wr HB.out)
   have HYk:=ι fun W1 hj hs hp=>HY.out (those (entB ss) k) k W1 hj hs hp
   have cd:=HX.out.cell
   have hub:entB ss k=(entAt ss (k:Int)).used:=rfl
   generalize entAt ss (k:Int)=x at HEk HYk hub
   obtain⟨u,pa,nm,tg⟩:=x
   simp only at hub
   cases u with
   | false =>
    have HT:=ι (a2r hub)
    clear hub HYk
    gi_wp2_with (refine⟨trivial,?_⟩;gi_at_call 45;refine(callsIn_wide.2 HEk.out).mono ?_;rintro e w2 ⟨rfl,hb2⟩;have HB2:=ι hb2;clear hb2)
    all_goals
     refine⟨fun _ h=>(by cases h),?_⟩
     gi_wp2
     go_roundw
     case rel=>exact⟨k+1,by omega,by go_num,ι (by rw[HT.out];exact HJ.out _ _ _ HJS.out (Calm.of_below (a0a HB2.out _))),ι (HB.out.trans ((a0a HB2.out _).mono HB.out.size)),ι ((Calm.of_below (B:=0) (a0a HB2.out _)).boxed HX.out),ι (Nat.le_trans HS.out (a0a HB2.out _).size)⟩
     case measure=>simp[intOf];omega
   | true =>
    have HT:=ι (a1w hub)
    have HP:Hid (those (entB ss) k++[k] <+: those (entB ss) 24):=ι (by rw[← HT.out];exact a2v _ (by omega))
    clear hub
    have HYw:=ι fun w2 (hb2:Below wr.heap.size wr w2)=>a1m 9 (HYk.out (w2.alloc (.cells #[.bool true,.int .i64 pa,.string nm,.int .i64 tg] 65)) (HJ.out _ _ _ HJS.out (Calm.of_below (a0a hb2 _))) (Nat.le_trans HS.out (a0a hb2 _).size) HP.out)
    gi_wp2_with (refine⟨trivial,?_⟩;gi_at_call 45;refine(callsIn_wide.2 HEk.out).mono ?_;rintro e w2 ⟨rfl,hb2⟩;have HB2:=ι hb2;obtain⟨fn,tmps,assign,body,hy,hR⟩:=HYw.out w2 hb2;replace hy:(Instr.yield l #[.int .i64 (k:Int),.agg #[.bool true,.int .i64 pa,.string nm,.int .i64 tg]]).run Tryz.prog (w2.alloc (.cells #[.bool true,.int .i64 pa,.string nm,.int .i64 tg] 65)) = .ok (.round l fn tmps assign body) (w2.alloc (.cells #[.bool true,.int .i64 pa,.string nm,.int .i64 tg] 65)):=hy;clear hb2)
    refine hR.mono ?_
    have HBa:=ι (a0a HB2.out (.cells #[.bool true,.int .i64 pa,.string nm,.int .i64 tg] 65))
    rintro e W3 (⟨rfl,hJ3,hT3⟩|⟨rfl,hJx3,hT3⟩)
    ·have HJ3:=ι hJ3
     have HB3:Hid (Below w0.heap.size w0 W3):=ι ((HB.out.trans (HBa.out.mono HB.out.size)).trans (hT3.below (Nat.le_trans HB.out.size HBa.out.size) fun i o hi=>HZ.out i o hi))
     have HX3:Hid (Go.Boxed W3 bd 25 d):=ι (hT3.keep _ _ ((Calm.of_below (B:=0) HBa.out).boxed HX.out) (HZD.out _))
     have HS3:Hid (W.heap.size≤W3.heap.size):=ι (Nat.le_trans HS.out (Nat.le_trans HBa.out.size hT3.size))
     clear hy hR hJ3 hT3 HBa HB2
     gi_wp2
     go_roundw
     case rel=>exact⟨k+1,by omega,by go_num,ι (by rw[HT.out];exact HJ3.out),HB3,HX3,HS3⟩
     case measure=>simp[intOf];omega
    ·have HJX3:=ι hJx3
     clear hy hR hJx3 hT3 HBa HB2
     gi_wp2
     refine bodyPost_ret (results_none rfl _ _ _) rfl ?_
     exact⟨⟨_,rfl⟩,.inr ⟨_,HP.out,HJX3.out⟩⟩
  ·obtain rfl:k=24:=by omega
   gi_wp2
   go_end0
   exact⟨⟨_,rfl⟩,.inl ⟨_,rfl,HJS.out⟩⟩
end lk
namespace lk
set_option maxRecDepth 100000
open Go.ChangeShapes Go.WideShapes Go.ChangeAt Go.RowKit
open rows
open sec
open ly
open al
open fs (a1i)
theorem tl_beq(a b:ByteArray):(a.toList == b.toList)=decide (a=b):=by
 by_cases h:a=b
 ·rw[h,decide_eq_true rfl];simp
 ·rw[decide_eq_false h,beq_eq_false_iff_ne]
  intro e
  exact h (by
   have h2:a.data.toList=b.data.toList:=by rw[← ByteArray.toList_eq,← ByteArray.toList_eq];exact e
   cases a;cases b
   simpa using h2)
theorem a4f(a b:Int):(a == b)=decide (a=b):=by
 by_cases h:a=b
 ·rw[h,decide_eq_true rfl];simp
 ·rw[decide_eq_false h,beq_eq_false_iff_ne];exact h
theorem odd_out{ss:List (List Int)}{k:Nat}(h:ss.length≤17+k):oddB ss k=false:=by
 rw[oddB,show (17+(k:Int))=((17+k:Nat):Int) by omega,a9h h];decide +kernel
structure EntIn (w:World) (p:Option Addr) (n c:Nat) (ss:List (List Int)) (k:Nat) (L:List Bool):Prop where
 rd:Rd w 32 (.slice p n c) n (cellsOf ss)
 secs:Secs ss
 few:n≤100000
 lt:k<24
 len:L.length=16
set_option maxRecDepth 100000 in
set_option maxHeartbeats 1600000 in
theorem b0m(p:Option Addr)(n c:Nat)(ss:List (List Int))(k:Nat)(L:List Bool)(w:World)(h:EntIn w p n c ss k L) :
  Calls Tryz.prog 19 #[.slice p n c,.int .i64 (k:Int),.int .i64 1,aggM L] w (Rt w (.bool (oddB ss k))):=by
 obtain⟨hr,hs,hn,hk,hL⟩:=h
 have HE:=ι fun w' (hb:Below w.heap.size w w')=>a2b p n c ss w' (hr.later hb) hs hn (k:Int) (a0l (by omega))
 have hl:ss.length=n:=by have h:=hr.cells;rw[a0q hs] at h;omega
 have hki:(k:Int)<24:=by omega
 have hni:(n:Int)≤100000:=by omega
 obtain⟨j,hj⟩:∃j:Nat,17+k=j:=⟨_,rfl⟩
 have HJ:=ι hj
 have hj1:(17:Int)+(k:Int)=(j:Int):=by omega
 have B0:=ι (a0a (Below.refl w.heap.size w) (.cells (boolsV L).toArray 56))
 by_cases hkn:j<n
 ·obtain⟨b,o,rfl,_,_,hb,_,hR⟩:=b6v hr hs hkn
  have HR:=ι fun w' (h:Below w.heap.size w w')=>Rd.rangeLater (hR j (by omega)) hb h
  have HS:=ι (hs _ (List.getElem_mem (show j<ss.length by omega)))
  have HO:Hid (oddB ss k = !entOfB ss[j]):=ι (by rw[oddB,show (17+(k:Int))=((17+k:Nat):Int) by omega,b1n (show 17+k<ss.length by omega)];subst hj;rfl)
  generalize ss[j]=s at *
  have HEF:=ι fun w'=>a5t s HS.out w'
  have hjn:(j:Int)<n:=by omega
  generalize entAt ss (k:Int)=x at *
  obtain⟨u,pa,nm,tg⟩:=x
  generalize entOfV s=y at *
  obtain⟨yu,yp,yn,yt⟩:=y
  clear hR hr hs hj hl
  go_enter Tryz.func19,Tryz.ntmps19
  go_upto_region 3 with(go_at_call 39;refine(HE.out _ B0.out).mono ?_;rintro e w1 ⟨rfl,hb⟩;have B1:=ι (a0a (a0b B0.out hb) (.cells #[.bool u,.int .i64 pa,.string nm,.int .i64 tg] 65));have HRW:=ι (HR.out _ B1.out);clear hb)
  go_wp2_with (first|(refine b1p rfl (.tmp 28) rfl b (o+j * 32) rfl s HS.out.1 HRW.out ?_)|(go_at_call 41;refine(HEF.out _).mono ?_;rintro e w2 ⟨rfl,hb⟩;have B2:=ι (a0a (a0b B1.out hb) (.cells #[.bool yu,.int .i64 yp,.string yn,.int .i64 yt] 65));clear hb))
  go_ret
  exact⟨by rw[HO.out]<;>rfl,B2.out⟩
 ·have HO:Hid (oddB ss k=false):=ι (odd_out (by omega))
  have hjn:(n:Int)≤j:=by omega
  generalize entAt ss (k:Int)=x at *
  obtain⟨u,pa,nm,tg⟩:=x
  clear hr hs hj hl hkn
  go_enter Tryz.func19,Tryz.ntmps19
  go_wp2_with (go_at_call 39;refine(HE.out _ B0.out).mono ?_;rintro e w1 ⟨rfl,hb⟩;have B1:=ι (a0a (a0b B0.out hb) (.cells #[.bool u,.int .i64 pa,.string nm,.int .i64 tg] 65));clear hb)
  go_ret
  exact⟨by rw[HO.out]<;>rfl,B1.out⟩
set_option maxRecDepth 100000 in
set_option maxHeartbeats 1600000 in
theorem b0n(p:Option Addr)(n c:Nat)(ss:List (List Int))(k:Nat)(L:List Bool)(w:World)(h:EntIn w p n c ss k L) :
  Calls Tryz.prog 19 #[.slice p n c,.int .i64 (k:Int),.int .i64 2,aggM L] w (Rt w (.bool (dangB ss k))):=by
 obtain⟨hr,hs,hn,hk,hL⟩:=h
 have HE:=ι fun w' (hb:Below w.heap.size w w')=>a2b p n c ss w' (hr.later hb) hs hn (k:Int) (a0l (by omega))
 have HI:=ι fun w' (hb:Below w.heap.size w w')=>a6e p n c ss w' (hr.later hb) hs hn (entAt ss (k:Int)).target (by have:=a6h hs (k:Int);exact a0l (by omega))
 have hf:=fun v=>fieldI0 _ (a1g hs (entAt ss (k:Int)).target) v
 have HD:Hid (dangB ss k=((entAt ss (k:Int)).used && ((inoAt ss (entAt ss (k:Int)).target).kind == 0))):=ι (by rw[a4f];rfl)
 have B0:=ι (a0a (Below.refl w.heap.size w) (.cells (boolsV L).toArray 56))
 generalize dangB ss k=db at *
 generalize entAt ss (k:Int)=x at *
 obtain⟨u,pa,nm,tg⟩:=x
 simp only at HE HI hf HD
 generalize inoAt ss tg=y at *
 obtain⟨kd,hkd⟩:∃kd,y.kind=kd:=⟨_,rfl⟩
 rw[hkd] at hf HD
 generalize aggI y=ay at *
 clear hr hs hkd
 cases u with
 | false =>
  go_enter Tryz.func19,Tryz.ntmps19
  go_wp2_with (go_at_call 39;refine(HE.out _ B0.out).mono ?_;rintro e w1 ⟨rfl,hb⟩;have B1:=ι (a0a (a0b B0.out hb) (.cells #[.bool false,.int .i64 pa,.string nm,.int .i64 tg] 65));clear hb)
  go_ret
  exact⟨by rw[HD.out]<;>rfl,B1.out⟩
 | true =>
  go_enter Tryz.func19,Tryz.ntmps19
  go_wp2_with (first|(go_at_call 39;refine(HE.out _ B0.out).mono ?_;rintro e w1 ⟨rfl,hb⟩;have B1:=ι (a0a (a0b B0.out hb) (.cells #[.bool true,.int .i64 pa,.string nm,.int .i64 tg] 65));clear hb)|(go_at_call 40;refine(HI.out _ B1.out).mono ?_;rintro e w2 ⟨rfl,hb⟩;have B2:=ι (a0b B1.out hb);clear hb))
  go_ret
  exact⟨by rw[HD.out]<;>rfl,B2.out⟩
set_option maxRecDepth 100000 in
set_option maxHeartbeats 1600000 in
theorem b0o(p:Option Addr)(n c:Nat)(ss:List (List Int))(k:Nat)(L:List Bool)(w:World)(h:EntIn w p n c ss k L)(hLB:∀i:Nat,L.getD i false=reachB ss (i:Int)) :
  Calls Tryz.prog 19 #[.slice p n c,.int .i64 (k:Int),.int .i64 3,aggM L] w (Rt w (.bool (lostB ss k))):=by
 obtain⟨hr,hs,hn,hk,hL⟩:=h
 have HE:=ι fun w' (hb:Below w.heap.size w w')=>a2b p n c ss w' (hr.later hb) hs hn (k:Int) (a0l (by omega))
 have HI:=ι fun w' (hb:Below w.heap.size w w')=>a6e p n c ss w' (hr.later hb) hs hn (entAt ss (k:Int)).parent (by have:=a6h hs (k:Int);exact a0l (by omega))
 have hf:=fun v=>fieldI0 _ (a1g hs (entAt ss (k:Int)).parent) v
 have HU:=ι fun h=>a1i (ss:=ss) (k:=(k:Int)) h
 have HD:Hid (lostB ss k=((entAt ss (k:Int)).used && (!reachB ss (entAt ss (k:Int)).parent || ((inoAt ss (entAt ss (k:Int)).parent).kind != 2)))):=ι (by rw[bne,a4f];rfl)
 have B0:=ι (a0a (Below.refl w.heap.size w) (.cells (boolsV L).toArray 56))
 have A0:=ι (b5b w L)
 have HLB:=ι hLB
 have HLL:=ι hL
 generalize lostB ss k=db at *
 generalize entAt ss (k:Int)=x at *
 obtain⟨u,pa,nm,tg⟩:=x
 simp only at HE HI hf HD HU
 cases u with
 | false =>
  clear hr hs hf HI HU
  go_enter Tryz.func19,Tryz.ntmps19
  go_wp2_with (go_at_call 39;refine(HE.out _ B0.out).mono ?_;rintro e w1 ⟨rfl,hb⟩;have B1:=ι (a0a (a0b B0.out hb) (.cells #[.bool false,.int .i64 pa,.string nm,.int .i64 tg] 65));clear hb)
  go_ret
  exact⟨by rw[HD.out]<;>rfl,B1.out⟩
 | true =>
  obtain⟨e1,e2,_,_,_⟩:=HU.out rfl
  obtain⟨pn,rfl⟩:=Int.eq_ofNat_of_zero_le e1
  have hpn:pn<16:=by omega
  have hpi:(pn:Int)<16:=by omega
  generalize inoAt ss (pn:Int)=y at *
  obtain⟨kd,hkd⟩:∃kd,y.kind=kd:=⟨_,rfl⟩
  rw[hkd] at hf HD
  rw[← HLB.out pn] at HD
  generalize aggI y=ay at *
  clear hr hs hkd e1 e2 HU hLB HLB
  cases hm:L.getD pn false with
  | false =>
   rw[hm] at HD
   go_enter Tryz.func19,Tryz.ntmps19
   go_wp2_with (go_at_call 39;refine(HE.out _ B0.out).mono ?_;rintro e w1 ⟨rfl,hb⟩;have hcm:=((A0.out.later hb).later (a0a (Below.refl _ w1) (.cells #[.bool true,.int .i64 (pn:Int),.string nm,.int .i64 tg] 65))).cell (k:=pn) (by rw[HLL.out];exact hpn);rw[hm] at hcm;have B1:=ι (a0a (a0b B0.out hb) (.cells #[.bool true,.int .i64 (pn:Int),.string nm,.int .i64 tg] 65));clear hb)
   go_ret
   exact⟨by rw[HD.out]<;>rfl,B1.out⟩
  | true =>
   rw[hm] at HD
   go_enter Tryz.func19,Tryz.ntmps19
   go_wp2_with (first|(go_at_call 39;refine(HE.out _ B0.out).mono ?_;rintro e w1 ⟨rfl,hb⟩;have hcm:=((A0.out.later hb).later (a0a (Below.refl _ w1) (.cells #[.bool true,.int .i64 (pn:Int),.string nm,.int .i64 tg] 65))).cell (k:=pn) (by rw[HLL.out];exact hpn);rw[hm] at hcm;have B1:=ι (a0a (a0b B0.out hb) (.cells #[.bool true,.int .i64 (pn:Int),.string nm,.int .i64 tg] 65));clear hb)|(go_at_call 40;refine(HI.out _ B1.out).mono ?_;rintro e w2 ⟨rfl,hb⟩;have B2:=ι (a0b B1.out hb);clear hb))
   go_ret
   exact⟨by rw[HD.out]<;>rfl,B2.out⟩
theorem b2r(ss:List (List Int))(k j:Nat):sameD ss k j=(((entAt ss (j:Int)).parent == (entAt ss (k:Int)).parent) && ((entAt ss (j:Int)).name.toList == (entAt ss (k:Int)).name.toList)):=by rw[sameD,a4f,tl_beq]
theorem b1x(ss:List (List Int))(k j:Nat):sameL ss k j=((entAt ss (j:Int)).target == (entAt ss (k:Int)).target):=by rw[sameL,a4f]
set_option maxRecDepth 100000 in
set_option maxHeartbeats 3200000 in
theorem b1g(p:Option Addr)(n c:Nat)(ss:List (List Int))(k:Nat)(L:List Bool)(w:World)(h:EntIn w p n c ss k L) :
  Calls Tryz.prog 19 #[.slice p n c,.int .i64 (k:Int),.int .i64 4,aggM L] w (Rt w (.bool (dblB ss k))):=by
 obtain⟨hr,hs,hn,hk,hL⟩:=h
 have HE:=ι fun(j:Nat) (hj:j≤24) w' (hb:Below w.heap.size w w')=>a2b p n c ss w' (hr.later hb) hs hn (j:Int) (a0l (by omega))
 have HEK:=ι fun w' (hb:Below w.heap.size w w')=>a2b p n c ss w' (hr.later hb) hs hn (k:Int) (a0l (by omega))
 have HD:Hid (dblB ss k=((entAt ss (k:Int)).used && (List.range k).any fun j=>(entAt ss (j:Int)).used && sameD ss k j)):=ι rfl
 have HR:=ι fun j=>b2r ss k j
 have B0:=ι (a0a (Below.refl w.heap.size w) (.cells (boolsV L).toArray 56))
 have hki:(k:Int)<24:=by omega
 obtain⟨pr,hpr⟩:∃pr:Nat→Bool,(fun j:Nat=>(entAt ss (j:Int)).used && sameD ss k j)=pr:=⟨_,rfl⟩
 have HP:Hid (∀j,pr j=((entAt ss (j:Int)).used && sameD ss k j)):=ι fun j=>by rw[← hpr]
 rw[hpr] at HD
 generalize sameD ss k=rk at *
 generalize dblB ss k=db at *
 generalize entAt ss (k:Int)=x at *
 obtain⟨u,xp,xn,xt⟩:=x
 simp only at HEK HR HD
 clear hr hs hpr
 cases u with
 | false =>
  go_enter Tryz.func19,Tryz.ntmps19
  go_wp2_with (go_at_call 39;refine(HEK.out _ B0.out).mono ?_;rintro e w1 ⟨rfl,hb⟩;have B1:=ι (a0a (a0b B0.out hb) (.cells #[.bool false,.int .i64 xp,.string xn,.int .i64 xt] 65));clear hb)
  go_ret
  exact⟨by rw[HD.out]<;>rfl,B1.out⟩
 | true =>
  go_enter Tryz.func19,Tryz.ntmps19
  go_upto_region 14 with(go_at_call 39;refine(HEK.out _ B0.out).mono ?_;rintro e w1 ⟨rfl,hb⟩;have B1:=ι (a0a (a0b B0.out hb) (.cells #[.bool true,.int .i64 xp,.string xn,.int .i64 xt] 65));clear hb)
  have A1:=ι (a1t w1 ⟨true,xp,xn,xt⟩)
  generalize w1.alloc (.cells #[.bool true,.int .i64 xp,.string xn,.int .i64 xt] 65)=w2 at *
  generalize w1.heap.size=g1 at *
  go_loopw [12] (fun jv wr=>∃j:Nat,j≤k∧jv = .int .i64 (j:Int)∧Hid ((List.range j).any pr=false)∧Hid (AtE wr g1 ⟨true,xp,xn,xt⟩)∧Hid (Below w.heap.size w wr)) (fun jv _=>k-(intOf jv).toNat)
  case atStart=>exact⟨0,by omega,rfl,ι rfl,A1,B1⟩
  case round =>
   clear A1 B1
   obtain⟨j,hj,rfl,HN,HA,HB⟩:=hrel
   by_cases hlt:j<k
   ·have hlti:(j:Int)<k:=by omega
    have hji:(j:Int)<24:=by omega
    have HEj:=ι (HE.out j (by omega) wr HB.out)
    have HS:Hid ((List.range (j+1)).any pr=pr j):=ι (by rw[List.range_succ,List.any_append,HN.out];simp)
    have HM:Hid (pr j=true→(List.range k).any pr=true):=ι fun h=>List.any_eq_true.2 ⟨j,List.mem_range.2 hlt,h⟩
    have HPj:=ι (HP.out j)
    rw[HR.out j] at HPj
    generalize pr j=pj at *
    generalize entAt ss (j:Int)=y at *
    obtain⟨v,yp,yn,yt⟩:=y
    simp only at HEj HPj
    cases v with
    | false =>
     have HN1:Hid ((List.range (j+1)).any pr=false):=ι (by rw[HS.out,HPj.out];rfl)
     clear HS HM HPj
     go_wp2_with (go_at_call 39;refine HEj.out.mono ?_;rintro e w3 ⟨rfl,hb⟩;have A3:=ι ((HA.out.later hb).later (a0a (Below.refl _ w3) (.cells #[.bool false,.int .i64 yp,.string yn,.int .i64 yt] 65)));have B3:=ι (a0a (a0b HB.out hb) (.cells #[.bool false,.int .i64 yp,.string yn,.int .i64 yt] 65));clear hb)
     go_roundw
     case rel=>exact⟨j+1,by omega,by go_num,HN1,A3,B3⟩
     case measure=>simp[intOf];omega
    | true =>
     obtain⟨b1,hb1⟩:∃b,(yp == xp)=b:=⟨_,rfl⟩
     rw[hb1] at HPj
     obtain⟨b2,hb2⟩:∃b,(yn.toList == xn.toList)=b:=⟨_,rfl⟩
     rw[hb2] at HPj
     cases b1<;>cases b2
     all_goals
      first
       | (
         have HN1:Hid ((List.range (j+1)).any pr=false):=ι (by rw[HS.out,HPj.out];rfl)
         clear HS HM HPj
         go_wp2_with (go_at_call 39;refine HEj.out.mono ?_;rintro e w3 ⟨rfl,hb⟩;have A3:=ι ((HA.out.later hb).later (a0a (Below.refl _ w3) (.cells #[.bool true,.int .i64 yp,.string yn,.int .i64 yt] 65)));have B3:=ι (a0a (a0b HB.out hb) (.cells #[.bool true,.int .i64 yp,.string yn,.int .i64 yt] 65));have z1:(w3.alloc (.cells #[.bool true,.int .i64 yp,.string yn,.int .i64 yt] 65)).cell? ⟨g1,1,none⟩=some (.int .i64 xp):=A3.out.cell1;have z2:(w3.alloc (.cells #[.bool true,.int .i64 yp,.string yn,.int .i64 yt] 65)).cell? ⟨g1,2,none⟩=some (.string xn):=A3.out.cell2;have z3:(w3.alloc (.cells #[.bool true,.int .i64 yp,.string yn,.int .i64 yt] 65)).cell? ⟨g1,3,none⟩=some (.int .i64 xt):=A3.out.cell3;clear hb)
         go_roundw
         case rel=>exact⟨j+1,by omega,by go_num,HN1,A3,B3⟩
         case measure=>simp[intOf];omega)
       | (
         have HT:Hid (db=true):=ι (by rw[HD.out,HM.out (by rw[HPj.out];rfl)];rfl)
         clear HS HM HPj
         go_wp2_with (go_at_call 39;refine HEj.out.mono ?_;rintro e w3 ⟨rfl,hb⟩;have A3:=ι ((HA.out.later hb).later (a0a (Below.refl _ w3) (.cells #[.bool true,.int .i64 yp,.string yn,.int .i64 yt] 65)));have B3:=ι (a0a (a0b HB.out hb) (.cells #[.bool true,.int .i64 yp,.string yn,.int .i64 yt] 65));have z1:(w3.alloc (.cells #[.bool true,.int .i64 yp,.string yn,.int .i64 yt] 65)).cell? ⟨g1,1,none⟩=some (.int .i64 xp):=A3.out.cell1;have z2:(w3.alloc (.cells #[.bool true,.int .i64 yp,.string yn,.int .i64 yt] 65)).cell? ⟨g1,2,none⟩=some (.string xn):=A3.out.cell2;have z3:(w3.alloc (.cells #[.bool true,.int .i64 yp,.string yn,.int .i64 yt] 65)).cell? ⟨g1,3,none⟩=some (.int .i64 xt):=A3.out.cell3;clear hb)
         go_ret
         exact⟨by rw[HT.out]<;>rfl,B3.out⟩)
   ·obtain rfl:j=k:=by omega
    have HT:Hid (db=false):=ι (by rw[HD.out,HN.out];rfl)
    go_wp2_with fail
    go_ret
    exact⟨by rw[HT.out]<;>rfl,HB.out⟩
set_option maxRecDepth 100000 in
set_option maxHeartbeats 3200000 in
theorem b0w(p:Option Addr)(n c:Nat)(ss:List (List Int))(k:Nat)(L:List Bool)(w:World)(h:EntIn w p n c ss k L) :
  Calls Tryz.prog 19 #[.slice p n c,.int .i64 (k:Int),.int .i64 5,aggM L] w (Rt w (.bool (lnkB ss k))):=by
 obtain⟨hr,hs,hn,hk,hL⟩:=h
 have HE:=ι fun(j:Nat) (hj:j≤24) w' (hb:Below w.heap.size w w')=>a2b p n c ss w' (hr.later hb) hs hn (j:Int) (a0l (by omega))
 have HEK:=ι fun w' (hb:Below w.heap.size w w')=>a2b p n c ss w' (hr.later hb) hs hn (k:Int) (a0l (by omega))
 have HD:Hid (lnkB ss k=((entAt ss (k:Int)).used && (List.range k).any fun j=>(entAt ss (j:Int)).used && sameL ss k j)):=ι rfl
 have HR:=ι fun j=>b1x ss k j
 have B0:=ι (a0a (Below.refl w.heap.size w) (.cells (boolsV L).toArray 56))
 have hki:(k:Int)<24:=by omega
 obtain⟨pr,hpr⟩:∃pr:Nat→Bool,(fun j:Nat=>(entAt ss (j:Int)).used && sameL ss k j)=pr:=⟨_,rfl⟩
 have HP:Hid (∀j,pr j=((entAt ss (j:Int)).used && sameL ss k j)):=ι fun j=>by rw[← hpr]
 rw[hpr] at HD
 generalize sameL ss k=rk at *
 generalize lnkB ss k=db at *
 generalize entAt ss (k:Int)=x at *
 obtain⟨u,xp,xn,xt⟩:=x
 simp only at HEK HR HD
 clear hr hs hpr
 cases u with
 | false =>
  go_enter Tryz.func19,Tryz.ntmps19
  go_wp2_with (go_at_call 39;refine(HEK.out _ B0.out).mono ?_;rintro e w1 ⟨rfl,hb⟩;have B1:=ι (a0a (a0b B0.out hb) (.cells #[.bool false,.int .i64 xp,.string xn,.int .i64 xt] 65));clear hb)
  go_ret
  exact⟨by rw[HD.out]<;>rfl,B1.out⟩
 | true =>
  go_enter Tryz.func19,Tryz.ntmps19
  go_upto_region 14 with(go_at_call 39;refine(HEK.out _ B0.out).mono ?_;rintro e w1 ⟨rfl,hb⟩;have B1:=ι (a0a (a0b B0.out hb) (.cells #[.bool true,.int .i64 xp,.string xn,.int .i64 xt] 65));clear hb)
  have A1:=ι (a1t w1 ⟨true,xp,xn,xt⟩)
  generalize w1.alloc (.cells #[.bool true,.int .i64 xp,.string xn,.int .i64 xt] 65)=w2 at *
  generalize w1.heap.size=g1 at *
  go_loopw [12] (fun jv wr=>∃j:Nat,j≤k∧jv = .int .i64 (j:Int)∧Hid ((List.range j).any pr=false)∧Hid (AtE wr g1 ⟨true,xp,xn,xt⟩)∧Hid (Below w.heap.size w wr)) (fun jv _=>k-(intOf jv).toNat)
  case atStart=>exact⟨0,by omega,rfl,ι rfl,A1,B1⟩
  case round =>
   clear A1 B1
   obtain⟨j,hj,rfl,HN,HA,HB⟩:=hrel
   by_cases hlt:j<k
   ·have hlti:(j:Int)<k:=by omega
    have hji:(j:Int)<24:=by omega
    have HEj:=ι (HE.out j (by omega) wr HB.out)
    have HS:Hid ((List.range (j+1)).any pr=pr j):=ι (by rw[List.range_succ,List.any_append,HN.out];simp)
    have HM:Hid (pr j=true→(List.range k).any pr=true):=ι fun h=>List.any_eq_true.2 ⟨j,List.mem_range.2 hlt,h⟩
    have HPj:=ι (HP.out j)
    rw[HR.out j] at HPj
    generalize pr j=pj at *
    generalize entAt ss (j:Int)=y at *
    obtain⟨v,yp,yn,yt⟩:=y
    simp only at HEj HPj
    cases v with
    | false =>
     have HN1:Hid ((List.range (j+1)).any pr=false):=ι (by rw[HS.out,HPj.out];rfl)
     clear HS HM HPj
     go_wp2_with (go_at_call 39;refine HEj.out.mono ?_;rintro e w3 ⟨rfl,hb⟩;have A3:=ι ((HA.out.later hb).later (a0a (Below.refl _ w3) (.cells #[.bool false,.int .i64 yp,.string yn,.int .i64 yt] 65)));have B3:=ι (a0a (a0b HB.out hb) (.cells #[.bool false,.int .i64 yp,.string yn,.int .i64 yt] 65));clear hb)
     go_roundw
     case rel=>exact⟨j+1,by omega,by go_num,HN1,A3,B3⟩
     case measure=>simp[intOf];omega
    | true =>
     obtain⟨b1,hb1⟩:∃b,(yt == xt)=b:=⟨_,rfl⟩
     rw[hb1] at HPj
     cases b1
     all_goals
      first
       | (
         have HN1:Hid ((List.range (j+1)).any pr=false):=ι (by rw[HS.out,HPj.out];rfl)
         clear HS HM HPj
         go_wp2_with (go_at_call 39;refine HEj.out.mono ?_;rintro e w3 ⟨rfl,hb⟩;have A3:=ι ((HA.out.later hb).later (a0a (Below.refl _ w3) (.cells #[.bool true,.int .i64 yp,.string yn,.int .i64 yt] 65)));have B3:=ι (a0a (a0b HB.out hb) (.cells #[.bool true,.int .i64 yp,.string yn,.int .i64 yt] 65));have z1:(w3.alloc (.cells #[.bool true,.int .i64 yp,.string yn,.int .i64 yt] 65)).cell? ⟨g1,1,none⟩=some (.int .i64 xp):=A3.out.cell1;have z2:(w3.alloc (.cells #[.bool true,.int .i64 yp,.string yn,.int .i64 yt] 65)).cell? ⟨g1,2,none⟩=some (.string xn):=A3.out.cell2;have z3:(w3.alloc (.cells #[.bool true,.int .i64 yp,.string yn,.int .i64 yt] 65)).cell? ⟨g1,3,none⟩=some (.int .i64 xt):=A3.out.cell3;clear hb)
         go_roundw
         case rel=>exact⟨j+1,by omega,by go_num,HN1,A3,B3⟩
         case measure=>simp[intOf];omega)
       | (
         have HT:Hid (db=true):=ι (by rw[HD.out,HM.out (by rw[HPj.out];rfl)];rfl)
         clear HS HM HPj
         go_wp2_with (go_at_call 39;refine HEj.out.mono ?_;rintro e w3 ⟨rfl,hb⟩;have A3:=ι ((HA.out.later hb).later (a0a (Below.refl _ w3) (.cells #[.bool true,.int .i64 yp,.string yn,.int .i64 yt] 65)));have B3:=ι (a0a (a0b HB.out hb) (.cells #[.bool true,.int .i64 yp,.string yn,.int .i64 yt] 65));have z1:(w3.alloc (.cells #[.bool true,.int .i64 yp,.string yn,.int .i64 yt] 65)).cell? ⟨g1,1,none⟩=some (.int .i64 xp):=A3.out.cell1;have z2:(w3.alloc (.cells #[.bool true,.int .i64 yp,.string yn,.int .i64 yt] 65)).cell? ⟨g1,2,none⟩=some (.string xn):=A3.out.cell2;have z3:(w3.alloc (.cells #[.bool true,.int .i64 yp,.string yn,.int .i64 yt] 65)).cell? ⟨g1,3,none⟩=some (.int .i64 xt):=A3.out.cell3;clear hb)
         go_ret
         exact⟨by rw[HT.out]<;>rfl,B3.out⟩)
   ·obtain rfl:j=k:=by omega
    have HT:Hid (db=false):=ι (by rw[HD.out,HN.out];rfl)
    go_wp2_with fail
    go_ret
    exact⟨by rw[HT.out]<;>rfl,HB.out⟩
end lk
namespace lk
set_option maxRecDepth 100000
open Go.ChangeShapes Go.WideShapes Go.ChangeAt Go.RowKit
open rows
open sec
open dsk (a0c)
open ly
open rng
attribute [local go_sem] Oper.semAt_some
def softP(o:Obj):Prop:=∃cs fr,o = .cells cs 38 fr
theorem a0f(o:Obj)(h:softP o):o.isCells=true:=by
 obtain⟨cs,fr,rfl⟩:=h
 rfl
theorem a0k{cs:Array Value}{t:TypeId}{fr:Nat×Nat}(h:t≠38):¬softP (.cells cs t fr):=fun⟨cs',fr',e⟩=>by
 injection e with _ h2
 exact h h2
structure Keep (w0:World) (lo:Nat) (V1 V:World):Prop where
 below:Below w0.heap.size w0 V
 size:V1.heap.size≤V.heap.size
 cell:∀(k:Nat) (o:Obj),lo≤k→V1.heap[k]? = some o→o.isCells=true→¬softP o→V.heap[k]? = some o
theorem Keep.refl{w0:World}{lo:Nat}{V:World}(h:Below w0.heap.size w0 V):Keep w0 lo V V:=⟨h,Nat.le_refl _,fun k o _ h _ _=>h⟩
theorem Keep.calm{w0:World}{lo B:Nat}{V1 A C:World}(h:Keep w0 lo V1 A)(hc:rng.Calm B A C)(hB:w0.heap.size≤B):Keep w0 lo V1 C :=
 ⟨h.below.trans (hc.below hB h.below.size),Nat.le_trans h.size hc.size,fun k o hk hi ho hs=>hc.block k o (h.cell k o hk hi ho hs) (Or.inr ho)⟩
theorem Keep.later{w0:World}{lo:Nat}{V1 A C:World}(h:Keep w0 lo V1 A)(hb:Below A.heap.size A C):Keep w0 lo V1 C :=
 h.calm (rng.Calm.of_below (B:=w0.heap.size) hb) (Nat.le_refl _)
theorem Keep.turn{w0:World}{lo:Nat}{V1 A C:World}{m:Nat→Obj→Prop}(h:Keep w0 lo V1 A)(hT:Turn m A C)(h1:∀b o,m b o→w0.heap.size≤b)(h2:∀b o,m b o→b<lo∨softP o∨V1.heap.size≤b):Keep w0 lo V1 C :=
 ⟨h.below.trans (hT.below h.below.size h1),Nat.le_trans h.size hT.size,fun k o hk hi ho hs=>hT.keep k o (h.cell k o hk hi ho hs) fun hm=>by
  have hl:k<V1.heap.size:=(Array.getElem?_eq_some_iff.1 hi).1
  rcases h2 k o hm with h|h|h
  ·omega
  ·exact hs h
  ·omega⟩
theorem Keep.boxed{w0:World}{lo:Nat}{V1 V:World}(h:Keep w0 lo V1 V){b:Nat}{t:TypeId}{v:Value}(hb:Go.Boxed V1 b t v)(hl:lo≤b)(ht:t≠38):Go.Boxed V b t v:=h.cell b _ hl hb rfl (a0k ht)
def RowO(w:World)(g:Nat)(l:List Int):Prop:=w.heap[g]? = some (.cells (i64s l).toArray 109 (0,0))
theorem Keep.rowO{w0:World}{lo:Nat}{V1 V:World}(h:Keep w0 lo V1 V){g:Nat}{l:List Int}(hb:RowO V1 g l)(hl:lo≤g):RowO V g l:=h.cell g _ hl hb rfl (a0k (by decide))
theorem RowO.cell{w:World}{g:Nat}{l:List Int}(h:RowO w g l){k:Nat}(hk:k<l.length):w.cell? ⟨g,k,none⟩=some (.int .i64 (l.getD k 0)) :=
 a0c h k _ (by simp[i64s,List.getD,hk])
set_option maxRecDepth 100000 in
set_option maxHeartbeats 1600000 in
theorem b5d(w:World)(p:Option Addr)(ss:List (List Int))(k bd:Nat)(h:Dk w (.pointer p) ss)(hk:k<24)(hbx:Go.Boxed w bd 25 (.pointer p)) :
  Calls Tryz.prog 50 #[.int .i64 (k:Int),.pointer (some ⟨bd,0,none⟩)] w (Rt w (.bool (oddB ss k))):=by
 have HRD:=ι (dread w (.pointer p) ss (17+(k:Int)) h (a0l (by omega)))
 have HSJ:=ι (a1v h.secs.1 (17+(k:Int)))
 have HO:Hid (oddB ss k = !entOfB (secAt ss (17+(k:Int)))):=ι rfl
 have cd:=hbx.cell
 have hki:(k:Int)<24:=by omega
 obtain⟨j,hj⟩:∃j:Int,17+(k:Int)=j:=⟨_,rfl⟩
 rw[hj] at HRD HSJ HO
 generalize secAt ss j=s at *
 generalize (if 0≤j∧j<(ss.length:Int) then (0:Int) else 1)=er at *
 have HEF:=ι fun w'=>a7f s HSJ.out w'
 generalize entOfV s=y at *
 obtain⟨yu,yp,yn,yt⟩:=y
 clear h hbx
 go_enter Tryz.func50,Tryz.ntmps50
 go_wp2_with (first
  | (go_at_call 51;refine HRD.out.mono ?_;rintro e w2 ⟨rfl,hb⟩;have B2:=ι hb;clear hb)
  | (refine a0e rfl (.tmp 4) (.tmp 13) rfl rfl w2.heap.size s zero32 rfl rfl HSJ.out.1 (by decide) (a0t w2) ?_;intro w3 hA hB _;have A3:=ι hA;have B3:=ι (a0b B2.out ((a0a (Below.refl _ w2) _).trans hB));clear hA hB)
  | (refine a3n rfl (.tmp 4) rfl w2.heap.size rfl s HSJ.out.1 A3.out ?_)
  | (go_at_call 52;refine(HEF.out _).mono ?_;rintro e w4 ⟨rfl,hb⟩;have B4:=ι (a0a (a0b B3.out hb) (.cells #[.bool yu,.int .i64 yp,.string yn,.int .i64 yt] 65));clear hb))
 go_ret
 exact⟨by rw[HO.out]<;>rfl,B4.out⟩
def shrL(fl:List Int)(k:Nat):Bool:=decide (1≤k) && decide (1<fl.getD k 0)
theorem a9k(w:World)(l:List Int)(k g:Nat)(hl:l.length=25)(h1:1≤k)(hk:k<25)(hr:RowO w g l) :
  Calls Tryz.prog 60 #[.int .i64 (k:Int),.pointer (some ⟨g,0,none⟩)] w (Rt w (.bool (shrL l k))):=by
 have HS:Hid (shrL l k=decide (1<l.getD k 0)):=ι (by rw[shrL,decide_eq_true h1,Bool.true_and])
 have hc:=hr.cell (k:=k) (by omega)
 have hki:(k:Int)<25:=by omega
 generalize l.getD k 0=z at *
 clear hr
 go_enter Tryz.func60,Tryz.ntmps60
 go_wp2_with fail
 go_ret
 exact⟨by rw[HS.out]<;>rfl,Below.refl _ _⟩
set_option maxRecDepth 100000 in
set_option maxHeartbeats 2000000 in
theorem odd_seq(w0:World)(lo:Nat)(V1:World)(p:Option Addr)(ss:List (List Int))(hd:Dk w0 (.pointer p) ss)(bd:Nat)(hbd:Go.Boxed V1 bd 25 (.pointer p))(bf bl bb:Nat)(hbf:Go.Boxed V1 bf 3 (.int .i64 0))(hbl:Go.Boxed V1 bl 3 (.int .i64 23))(hbb:Go.Boxed V1 bb 69 (.func (.func 50) #[] #[.pointer (some ⟨bd,0,none⟩)]))(hlo:lo≤bf∧lo≤bl∧lo≤bb∧lo≤bd)(m:Nat→Obj→Prop)(w:World)(hk:Keep w0 lo V1 w)(h1:∀b o,m b o→w0.heap.size≤b)(h2:∀b o,m b o→b<lo∨softP o∨V1.heap.size≤b) :
  Seq Tryz.prog 77 #[.pointer (some ⟨bf,0,none⟩),.pointer (some ⟨bl,0,none⟩),.pointer (some ⟨bb,0,none⟩)] (fun k:Nat => #[.int .i64 (k:Int)]) softP m (fun ys=>ys=those (oddB ss) 24) (fun pre=>pre <+: those (oddB ss) 24) w:=by
 intro l J Jx W hW _ hJ hJx hY h0
 have HJ:=ι hJ
 have HY:=ι hY
 have H1:=ι h1
 have H2:=ι h2
 have HBF:=ι fun V (h:Keep w0 lo V1 V)=>h.boxed hbf hlo.1 (by decide)
 have HBL:=ι fun V (h:Keep w0 lo V1 V)=>h.boxed hbl hlo.2.1 (by decide)
 have HBB:=ι fun V (h:Keep w0 lo V1 V)=>h.boxed hbb hlo.2.2.1 (by decide)
 have HBD:=ι fun(k:Nat) (hk:k<24) V (h:Keep w0 lo V1 V)=>b5d V p ss k bd (hd.later h.below) hk (h.boxed hbd hlo.2.2.2 (by decide))
 clear hbd hd
 have HK0:Hid (Keep w0 lo V1 W):=ι (hk.calm (B:=w0.heap.size) ⟨hW.os,hW.tape,hW.output,hW.size,fun k o hi ho=>(hW.block k (Array.getElem?_eq_some_iff.1 hi).1).trans hi⟩ (Nat.le_refl _))
 have hcf:=(HBF.out W HK0.out).cell
 have hz:those (oddB ss) 0=[]:=by rfl
 have H0:Hid (J (those (oddB ss) 0) W):=ι (by rw[hz];exact h0)
 generalize hpr:(oddB ss)=pr at *
 clear hJ hY h1 h2 hbf hbl hbb hlo hk hW h0 hJx hz
 refine(callsIn_wide (n:=10)).1 (callsIn_of_wp Tryz.func77 rfl trivial ?_ rfl)
 simp only[Tryz.ntmps77,List.size_toArray,List.length_cons,List.length_nil,Nat.reduceAdd,Nat.reduceSub,Array.replicate_succ,Array.replicate_zero,List.push_toArray,List.append_toArray,List.nil_append,List.cons_append]
 gi_wp2
 gi_loopw [5] (fun kv wr=>∃k:Nat,0≤k∧k≤24∧kv = .int .i64 (k:Int)∧Hid (J (those pr k) wr)∧Hid (Keep w0 lo V1 wr)∧Hid (W.heap.size≤wr.heap.size))
  (fun kv _=>24-(intOf kv).toNat)
 case atStart=>exact⟨0,by omega,by omega,rfl,H0,HK0,ι (Nat.le_refl _)⟩
 case round =>
  clear hcf H0 HK0
  obtain⟨k,hk0,hk,rfl,HJS,HKP,HS⟩:=hrel
  have hcl:=(HBL.out wr HKP.out).cell
  by_cases hlt:k<24
  ·have hlt1:(k:Int)≤23:=by omega
   have hcb:=(HBB.out wr HKP.out).cell
   have HBAD:=ι (HBD.out k hlt wr HKP.out)
   have HYk:=ι fun W1 hj hs hp=>HY.out (those pr k) k W1 hj hs hp
   cases hb:pr k with
   | false =>
    rw[hb] at HBAD
    have HT:=ι (a2r hb)
    clear hb HYk
    gi_wp2_with (refine⟨trivial,?_⟩;gi_at_call 50;refine(callsIn_wide.2 HBAD.out).mono ?_;rintro e w2 ⟨rfl,hb2⟩;have HB2:=ι hb2;clear hb2)
    all_goals
     refine⟨fun _ h=>(by cases h),?_⟩
     gi_wp2
     go_roundw
     case rel=>exact⟨k+1,by omega,by omega,by go_num,ι (by rw[HT.out];exact HJ.out _ _ _ HJS.out (rng.Calm.of_below HB2.out)),ι (HKP.out.later HB2.out),ι (Nat.le_trans HS.out HB2.out.size)⟩
     case measure=>simp[intOf];omega
   | true =>
    rw[hb] at HBAD
    have HT:=ι (a1w hb)
    have HP:Hid (those pr k++[k] <+: those pr 24):=ι (by rw[← HT.out];exact a2v _ (by omega))
    clear hb
    have HYw:=ι fun w2 (hb2:Below wr.heap.size wr w2)=>a1m 9 (HYk.out w2 (HJ.out _ _ _ HJS.out (rng.Calm.of_below hb2)) (Nat.le_trans HS.out hb2.size) HP.out)
    gi_wp2_with (refine⟨trivial,?_⟩;gi_at_call 50;refine(callsIn_wide.2 HBAD.out).mono ?_;rintro e w2 ⟨rfl,hb2⟩;have HB2:=ι hb2;obtain⟨fn,tmps,assign,body,hy,hR⟩:=HYw.out w2 hb2;replace hy:(Instr.yield l #[.int .i64 (k:Int)]).run Tryz.prog w2 = .ok (.round l fn tmps assign body) w2:=hy;clear hb2)
    refine hR.mono ?_
    rintro e W3 (⟨rfl,hJ3,hT3⟩|⟨rfl,hJx3,hT3⟩)
    ·have HJ3:=ι hJ3
     have HK3:Hid (Keep w0 lo V1 W3):=ι ((HKP.out.later HB2.out).turn hT3 (fun b o h=>H1.out b o h) (fun b o h=>H2.out b o h))
     have HS3:Hid (W.heap.size≤W3.heap.size):=ι (Nat.le_trans HS.out (Nat.le_trans HB2.out.size hT3.size))
     clear hy hR hJ3 hT3 HB2
     gi_wp2
     go_roundw
     case rel=>exact⟨k+1,by omega,by omega,by go_num,ι (by rw[HT.out];exact HJ3.out),HK3,HS3⟩
     case measure=>simp[intOf];omega
    ·have HJX3:=ι hJx3
     clear hy hR hJx3 hT3 HB2
     gi_wp2
     refine bodyPost_ret (results_none rfl _ _ _) rfl ?_
     exact⟨⟨_,rfl⟩,.inr ⟨_,HP.out,HJX3.out⟩⟩
  ·obtain rfl:k=24:=by omega
   gi_wp2
   go_end0
   exact⟨⟨_,rfl⟩,.inl ⟨_,rfl,HJS.out⟩⟩
set_option maxRecDepth 100000 in
set_option maxHeartbeats 2000000 in
theorem b3l(w0:World)(lo:Nat)(V1:World)(fl:List Int)(hfl:fl.length=25)(g:Nat)(hg:RowO V1 g fl)(bf bl bb:Nat)(hbf:Go.Boxed V1 bf 3 (.int .i64 1))(hbl:Go.Boxed V1 bl 3 (.int .i64 24))(hbb:Go.Boxed V1 bb 69 (.func (.func 60) #[] #[.pointer (some ⟨g,0,none⟩)]))(hlo:lo≤bf∧lo≤bl∧lo≤bb∧lo≤g)(m:Nat→Obj→Prop)(w:World)(hk:Keep w0 lo V1 w)(h1:∀b o,m b o→w0.heap.size≤b)(h2:∀b o,m b o→b<lo∨softP o∨V1.heap.size≤b) :
  Seq Tryz.prog 77 #[.pointer (some ⟨bf,0,none⟩),.pointer (some ⟨bl,0,none⟩),.pointer (some ⟨bb,0,none⟩)] (fun k:Nat => #[.int .i64 (k:Int)]) softP m (fun ys=>ys=those (shrL fl) 25) (fun pre=>pre <+: those (shrL fl) 25) w:=by
 intro l J Jx W hW _ hJ hJx hY h0
 have HJ:=ι hJ
 have HY:=ι hY
 have H1:=ι h1
 have H2:=ι h2
 have HBF:=ι fun V (h:Keep w0 lo V1 V)=>h.boxed hbf hlo.1 (by decide)
 have HBL:=ι fun V (h:Keep w0 lo V1 V)=>h.boxed hbl hlo.2.1 (by decide)
 have HBB:=ι fun V (h:Keep w0 lo V1 V)=>h.boxed hbb hlo.2.2.1 (by decide)
 have HBD:=ι fun(k:Nat) (h1:1≤k) (hk:k<25) V (h:Keep w0 lo V1 V)=>a9k V fl k g hfl h1 hk (h.rowO hg hlo.2.2.2)
 have hp0:shrL fl 0=false:=rfl
 clear hg hfl
 have HK0:Hid (Keep w0 lo V1 W):=ι (hk.calm (B:=w0.heap.size) ⟨hW.os,hW.tape,hW.output,hW.size,fun k o hi ho=>(hW.block k (Array.getElem?_eq_some_iff.1 hi).1).trans hi⟩ (Nat.le_refl _))
 have hcf:=(HBF.out W HK0.out).cell
 have hz:those (shrL fl) 1=[]:=by rw[a2r hp0];rfl
 have H0:Hid (J (those (shrL fl) 1) W):=ι (by rw[hz];exact h0)
 clear hp0
 generalize hpr:(shrL fl)=pr at *
 clear hJ hY h1 h2 hbf hbl hbb hlo hk hW h0 hJx hz
 refine(callsIn_wide (n:=10)).1 (callsIn_of_wp Tryz.func77 rfl trivial ?_ rfl)
 simp only[Tryz.ntmps77,List.size_toArray,List.length_cons,List.length_nil,Nat.reduceAdd,Nat.reduceSub,Array.replicate_succ,Array.replicate_zero,List.push_toArray,List.append_toArray,List.nil_append,List.cons_append]
 gi_wp2
 gi_loopw [5] (fun kv wr=>∃k:Nat,1≤k∧k≤25∧kv = .int .i64 (k:Int)∧Hid (J (those pr k) wr)∧Hid (Keep w0 lo V1 wr)∧Hid (W.heap.size≤wr.heap.size))
  (fun kv _=>25-(intOf kv).toNat)
 case atStart=>exact⟨1,by omega,by omega,rfl,H0,HK0,ι (Nat.le_refl _)⟩
 case round =>
  clear hcf H0 HK0
  obtain⟨k,hk0,hk,rfl,HJS,HKP,HS⟩:=hrel
  have hcl:=(HBL.out wr HKP.out).cell
  by_cases hlt:k<25
  ·have hlt1:(k:Int)≤24:=by omega
   have hcb:=(HBB.out wr HKP.out).cell
   have HBAD:=ι (HBD.out k hk0 hlt wr HKP.out)
   have HYk:=ι fun W1 hj hs hp=>HY.out (those pr k) k W1 hj hs hp
   cases hb:pr k with
   | false =>
    rw[hb] at HBAD
    have HT:=ι (a2r hb)
    clear hb HYk
    gi_wp2_with (refine⟨trivial,?_⟩;gi_at_call 60;refine(callsIn_wide.2 HBAD.out).mono ?_;rintro e w2 ⟨rfl,hb2⟩;have HB2:=ι hb2;clear hb2)
    all_goals
     refine⟨fun _ h=>(by cases h),?_⟩
     gi_wp2
     go_roundw
     case rel=>exact⟨k+1,by omega,by omega,by go_num,ι (by rw[HT.out];exact HJ.out _ _ _ HJS.out (rng.Calm.of_below HB2.out)),ι (HKP.out.later HB2.out),ι (Nat.le_trans HS.out HB2.out.size)⟩
     case measure=>simp[intOf];omega
   | true =>
    rw[hb] at HBAD
    have HT:=ι (a1w hb)
    have HP:Hid (those pr k++[k] <+: those pr 25):=ι (by rw[← HT.out];exact a2v _ (by omega))
    clear hb
    have HYw:=ι fun w2 (hb2:Below wr.heap.size wr w2)=>a1m 9 (HYk.out w2 (HJ.out _ _ _ HJS.out (rng.Calm.of_below hb2)) (Nat.le_trans HS.out hb2.size) HP.out)
    gi_wp2_with (refine⟨trivial,?_⟩;gi_at_call 60;refine(callsIn_wide.2 HBAD.out).mono ?_;rintro e w2 ⟨rfl,hb2⟩;have HB2:=ι hb2;obtain⟨fn,tmps,assign,body,hy,hR⟩:=HYw.out w2 hb2;replace hy:(Instr.yield l #[.int .i64 (k:Int)]).run Tryz.prog w2 = .ok (.round l fn tmps assign body) w2:=hy;clear hb2)
    refine hR.mono ?_
    rintro e W3 (⟨rfl,hJ3,hT3⟩|⟨rfl,hJx3,hT3⟩)
    ·have HJ3:=ι hJ3
     have HK3:Hid (Keep w0 lo V1 W3):=ι ((HKP.out.later HB2.out).turn hT3 (fun b o h=>H1.out b o h) (fun b o h=>H2.out b o h))
     have HS3:Hid (W.heap.size≤W3.heap.size):=ι (Nat.le_trans HS.out (Nat.le_trans HB2.out.size hT3.size))
     clear hy hR hJ3 hT3 HB2
     gi_wp2
     go_roundw
     case rel=>exact⟨k+1,by omega,by omega,by go_num,ι (by rw[HT.out];exact HJ3.out),HK3,HS3⟩
     case measure=>simp[intOf];omega
    ·have HJX3:=ι hJx3
     clear hy hR hJx3 hT3 HB2
     gi_wp2
     refine bodyPost_ret (results_none rfl _ _ _) rfl ?_
     exact⟨⟨_,rfl⟩,.inr ⟨_,HP.out,HJX3.out⟩⟩
  ·obtain rfl:k=25:=by omega
   gi_wp2
   go_end0
   exact⟨⟨_,rfl⟩,.inl ⟨_,rfl,HJS.out⟩⟩
end lk
namespace lk
set_option maxRecDepth 100000
open Go.ChangeShapes Go.WideShapes Go.ChangeAt Go.RowKit
open rows
open sec
open dsk (a0i a0z size_alloc)
open ly
open al
def inC(tk:Bool)(b:Nat)(bl:List Int)(i:Nat):Nat:=if tk then cntL (b:Int) (bl.take i) else 0
theorem b2a(tk:Bool)(b:Nat)(bl:List Int){i:Nat}(h:i<bl.length):inC tk b bl (i+1)=inC tk b bl i+if ((bl.getD i 0 == (b:Int)) && tk) then 1 else 0:=by
 cases tk with
 | false=>rw[inC,inC];simp
 | true =>
  rw[inC,inC,if_pos rfl,if_pos rfl,cntL,cntL,List.take_succ_eq_append_getElem h,List.filter_append,List.length_append,Bool.and_true,a4f]
  have e:bl.getD i 0=bl[i]:=by simp[List.getD,h]
  rw[e]
  by_cases hx:bl[i]=(b:Int)
  ·simp[hx]
  ·simp[hx]
theorem b6e(tk:Bool)(b:Nat)(bl:List Int)(i:Nat):inC tk b bl i≤i:=by
 unfold inC;split
 ·refine Nat.le_trans (List.length_filter_le _ _) ?_
  rw[List.length_take];omega
 ·omega
theorem a8h(ss:List (List Int))(hs:Secs ss)(b:Nat):∀n,ownC ss b n≤4 * n
 | 0=>Nat.le_refl _
 | n+1=>by
  have h:=a8h ss hs b n
  have h2:=b6e (takenB ss (n:Int)) b (inoAt ss (n:Int)).b 4
  have h4:=a1g hs (n:Int)
  rw[inC,List.take_of_length_le (by omega)] at h2
  rw[ownC];omega
set_option maxRecDepth 100000 in
set_option maxHeartbeats 3200000 in
theorem b1l(p:Option Addr)(n c:Nat)(ss:List (List Int))(b:Nat)(w:World)(h:Rd w 32 (.slice p n c) n (cellsOf ss))(hs:Secs ss)(hn:n≤100000) :
  Calls Tryz.prog 20 #[.slice p n c,.int .i64 (b:Int)] w (Rt w (.int .i64 (ownC ss b 16:Int))):=by
 have HI:=ι fun(k:Nat) (hk:k≤16) w' (hb:Below w.heap.size w w')=>a6e p n c ss w' (h.later hb) hs hn (k:Int) (a0l (by omega))
 have HT:=ι fun(k:Nat) (hk:k≤16) w' (hb:Below w.heap.size w w')=>b3d p n c ss w' (h.later hb) hs hn (k:Int) (a0l (by omega))
 have H4:=ι fun k=>a1g hs k
 have HOL:=ι (a8h ss hs b)
 clear h hs
 go_enter Tryz.func20,Tryz.ntmps20
 go_wp2_with fail
 go_loopw [5,6] (fun cv kv wr=>∃k:Nat,k≤16∧kv = .int .i64 (k:Int)∧cv = .int .i64 (ownC ss b k:Int)∧Hid (Below w.heap.size w wr)) (fun _ kv _=>16-(intOf kv).toNat)
 case atStart=>exact⟨0,by omega,rfl,rfl,ι (Below.refl _ _)⟩
 case round =>
  obtain⟨k,hk,rfl,rfl,HB⟩:=hrel
  by_cases hlt:k<16
  ·have hlti:(k:Int)<16:=by omega
   have HIk:=ι (HI.out k (by omega) wr HB.out)
   have HTk:=ι (HT.out k (by omega))
   have H4k:=ι (H4.out (k:Int))
   have hol:=HOL.out k
   have HNX:Hid (ownC ss b (k+1)=ownC ss b k+inC (takenB ss (k:Int)) b (inoAt ss (k:Int)).b 4):=ι (by
    rw[ownC,inC,List.take_of_length_le (by rw[H4k.out];exact Nat.le_refl _)])
   generalize takenB ss (k:Int)=tk at *
   generalize inoAt ss (k:Int)=x at *
   obtain⟨kd,sz,bl⟩:=x
   simp only at H4k HNX
   have HL4:Hid (bl.length=4):=H4k
   generalize ownC ss b k=ok at *
   go_upto_region 6 with(first|(go_at_call 40;refine HIk.out.mono ?_;rintro e w1 ⟨rfl,hb⟩;have B1:=ι (a0b HB.out hb);clear hb)|(refine a1b rfl (.tmp 7) (.tmp 15) rfl rfl w1.heap.size ⟨kd,sz,bl⟩ ino0 rfl rfl H4k.out rfl (a6y w1) ?_;intro w2 hA hB _;have B2:=ι (a0b B1.out ((a0a (Below.refl _ w1) _).trans hB));have A2:=ι hA;clear hA hB))
   generalize w1.heap.size=g1 at *
   clear B1
   go_wp2_with fail
   go_loopw [5,8] (fun cv iv wr=>∃i:Nat,i≤4∧iv = .int .i64 (i:Int)∧cv = .int .i64 ((ok+inC tk b bl i:Nat):Int)∧Hid (AtI wr g1 ⟨kd,sz,bl⟩)∧Hid (Below w.heap.size w wr)) (fun _ iv _=>4-(intOf iv).toNat)
   case atStart=>exact⟨0,by omega,rfl,by simp[inC,cntL],A2,B2⟩
   case round =>
    clear A2 B2
    obtain⟨i,hi,rfl,rfl,HA,HB2⟩:=hrel
    by_cases hli:i<4
    ·have hlii:(i:Int)<4:=by omega
     have hcb:=HA.out.cellb (i:=i) (by show i<bl.length;rw[HL4.out];exact hli)
     simp only at hcb
     have HST:=ι (b2a tk b bl (i:=i) (by rw[HL4.out];exact hli))
     have HTw:=ι (HTk.out wr HB2.out)
     have hil:=b6e tk b bl i
     generalize bl.getD i 0=bi at *
     generalize inC tk b bl i=ic at *
     obtain⟨b1,hb1⟩:∃x,(bi == (b:Int))=x:=⟨_,rfl⟩
     rw[hb1] at HST
     cases b1 with
     | false =>
      go_wp2_with fail
      go_roundw
      case rel=>exact⟨i+1,by omega,by go_num,by rw[HST.out];rfl,HA,HB2⟩
      case measure=>simp[intOf];omega
     | true =>
      cases tk with
      | false =>
       go_wp2_with (go_at_call 42;refine HTw.out.mono ?_;rintro e w3 ⟨rfl,hb⟩;have A3:=ι (HA.out.later hb);have B3:=ι (a0b HB2.out hb);clear hb)
       go_roundw
       case rel=>exact⟨i+1,by omega,by go_num,by rw[HST.out];rfl,A3,B3⟩
       case measure=>simp[intOf];omega
      | true =>
       go_wp2_with (go_at_call 42;refine HTw.out.mono ?_;rintro e w3 ⟨rfl,hb⟩;have A3:=ι (HA.out.later hb);have B3:=ι (a0b HB2.out hb);clear hb)
       go_roundw
       case rel=>exact⟨i+1,by omega,by go_num,by rw[HST.out];show _=Value.int .i64 ((ok+(ic+1):Nat):Int);congr 1<;>omega,A3,B3⟩
       case measure=>simp[intOf];omega
    ·obtain rfl:i=4:=by omega
     go_wp2_with fail
     go_roundw
     case rel=>exact⟨k+1,by omega,by go_num,by rw[HNX.out],HB2⟩
     case measure=>simp[intOf];omega
  ·obtain rfl:k=16:=by omega
   go_wp2_with fail
   go_ret
   exact⟨rfl,HB.out⟩
theorem b3h(p:Option Addr)(n c:Nat)(ss:List (List Int))(k i:Nat)(w:World)(hr:Rd w 32 (.slice p n c) n (cellsOf ss))(hs:Secs ss)(hn:n≤100000)(hk:k<24)(hi:i<5) :
  Calls Tryz.prog 19 #[.slice p n c,.int .i64 (k:Int),.int .i64 ((i+1:Nat):Int),aggM (reachL ss)] w (Rt w (.bool (pB ss i k))):=by
 have h:EntIn w p n c ss k (reachL ss):=⟨hr,hs,hn,hk,a3x ss⟩
 match i,hi with
 | 0,_=>exact b0m p n c ss k _ w h
 | 1,_=>exact b0n p n c ss k _ w h
 | 2,_=>exact b0o p n c ss k _ w h (fun i=>rfl)
 | 3,_=>exact b1g p n c ss k _ w h
 | 4,_=>exact b0w p n c ss k _ w h
def prC(x:Nat×Nat):List Value:=[.int .i64 (x.1:Int),.int .i64 (x.2:Int)]
def prsC(l:List (Nat×Nat)):List Value:=(l.map prC).flatten
theorem a7h(l:List (Nat×Nat))(x:Nat×Nat):prsC (l++[x])=prsC l++prC x:=by simp[prsC]
theorem a6k:Elem 30 39 2 16 (.agg #[.int .i64 0,.int .i64 0]):=⟨Tryz.underlying30,by kernel_rfl,by decide,by decide,by decide⟩
theorem a7u(ss:List (List Int))(i:Nat):probK ss i 0=[]:=rfl
theorem a9f{ss:List (List Int)}{i m:Nat}(h:pB ss i m=true):probK ss i (m+1)=probK ss i m++[(i+1,m)]:=by rw[probK,a1w h,List.map_append];rfl
theorem a8s{ss:List (List Int)}{i m:Nat}(h:pB ss i m=false):probK ss i (m+1)=probK ss i m:=by rw[probK,a2r h];rfl
theorem b2h(ss:List (List Int))(i m:Nat):(probK ss i m).length≤m:=by rw[probK,List.length_map];exact a3s _ _
theorem a4v(ss:List (List Int)):∀i,(probsU ss i).length≤25 * i
 | 0=>Nat.le_refl _
 | i+1=>by
  have h:=a4v ss i
  have h2:=b2h ss i (pLim i)
  have h3:pLim i≤25:=by unfold pLim;split<;>omega
  rw[probsU,List.length_append];omega
set_option maxRecDepth 100000 in
set_option maxHeartbeats 3200000 in
theorem b3y(p:Option Addr)(n c:Nat)(ss:List (List Int))(w:World)(h:Rd w 32 (.slice p n c) n (cellsOf ss))(hs:Secs ss)(hn:n≤100000) :
  Calls Tryz.prog 8 #[.slice p n c] w fun e w'=>∃q k,e = .returned (.slice q (probs ss).length k)∧Rd w' 2 (.slice q (probs ss).length k) (probs ss).length (prsC (probs ss))∧Below w.heap.size w w':=by
 have HRC:=ι fun w' (hb:Below w.heap.size w w')=>a5w p n c ss w' (h.later hb) hs hn
 have HEN:=ι fun(k i:Nat) (hk:k<24) (hi:i<5) w' (hb:Below w.heap.size w w')=>b3h p n c ss k i w' (h.later hb) hs hn hk hi
 have HOW:=ι fun(b:Nat) w' (hb:Below w.heap.size w w')=>b1l p n c ss b w' (h.later hb) hs hn
 have HOL:=ι (a8h ss hs)
 have HRL:=ι (a3x ss)
 have HPL:=ι (a4v ss)
 have HPK:=ι (b2h ss)
 obtain⟨L,hL⟩:∃L,reachL ss=L:=⟨_,rfl⟩
 rw[hL] at HRL HRC HEN
 clear h hs hL
 go_enter Tryz.func8,Tryz.ntmps8
 go_wp2_with (first|(go_at_call 18;refine(HRC.out _ (Below.refl _ _)).mono ?_;rintro e w1 ⟨rfl,hb⟩;have B1:=ι hb;clear hb)|(refine a8u rfl (.tmp 4) (.tmp 9) rfl rfl w1.heap.size L marksN rfl rfl HRL.out (by decide) (a8t w1) ?_;intro w2 hA hB;have A2:=ι hA;have B2:=ι (a0b B1.out ((a0a (Below.refl _ w1) _).trans hB));clear hA hB))
 generalize w1.heap.size=g1 at *
 clear B1
 go_loopw [3,5] (fun lv iv wr=>∃(i:Nat) (q:Option Addr) (k:Nat),i≤5∧iv = .int .i64 ((i+1:Nat):Int)∧lv = .slice q (probsU ss i).length k∧Hid (rows.Own wr w2.heap.size 39 2 (.slice q (probsU ss i).length k) (probsU ss i).length (prsC (probsU ss i)))∧Hid (Below w2.heap.size w2 wr)) (fun _ iv _=>6-(intOf iv).toNat)
 case atStart=>exact⟨0,none,0,by omega,rfl,rfl,ι (a3m _ _ _ _),ι (Below.refl _ _)⟩
 case round =>
  obtain⟨i,q,k,hi,rfl,rfl,HO,HB⟩:=hrel
  by_cases hlt:i<5
  ·have hlti:((i+1:Nat):Int)≤5:=by omega
   have hpl:=HPL.out i
   have HNX:Hid (probsU ss (i+1)=probsU ss i++probK ss i 24):=ι (by rw[probsU,pLim,if_pos hlt])
   obtain⟨P,hP⟩:∃P,probsU ss i=P:=⟨_,rfl⟩
   have HO0:Hid (rows.Own wr w2.heap.size 39 2 (.slice q (P++probK ss i 0).length k) (P++probK ss i 0).length (prsC (P++probK ss i 0))):=ι (by rw[a7u,List.append_nil,← hP];exact HO.out)
   have HLZ:Hid (P.length=(P++probK ss i 0).length):=ι (by rw[a7u,List.append_nil])
   rw[hP] at HNX hpl ⊢
   rw[HLZ.out]
   clear hP HO HLZ
   obtain⟨ki,hki⟩:∃ki:Int,((i+1:Nat):Int)=ki:=⟨_,rfl⟩
   have HKI:=ι hki
   have HENi:=ι fun(j:Nat) (hj:j<24) w' (hb:Below w.heap.size w w')=>HEN.out j i hj hlt w' hb
   rw[hki] at hlti HENi ⊢
   have hk0:0≤ki:=by omega
   clear hki
   go_wp2_with fail
   go_loopw [3,6] (fun lv jv wr=>∃(j:Nat) (q:Option Addr) (k:Nat),j≤24∧jv = .int .i64 (j:Int)∧lv = .slice q (P++probK ss i j).length k∧Hid (rows.Own wr w2.heap.size 39 2 (.slice q (P++probK ss i j).length k) (P++probK ss i j).length (prsC (P++probK ss i j)))∧Hid (Below w2.heap.size w2 wr)) (fun _ jv _=>24-(intOf jv).toNat)
   case atStart=>exact⟨0,q,k,by omega,rfl,rfl,HO0,HB⟩
   case round =>
    clear HO0 HB
    obtain⟨j,q,k,hj,rfl,rfl,HO,HB⟩:=hrel
    by_cases hjl:j<24
    ·have hjli:(j:Int)<24:=by omega
     have HCE:=ι (HENi.out j hjl wr (a0b B2.out HB.out))
     have hpk:=HPK.out i j
     have HY:=ι fun h=>a9f (ss:=ss) (i:=i) (m:=j) h
     have HN:=ι fun h=>a8s (ss:=ss) (i:=i) (m:=j) h
     have AW:=ι (A2.out.later HB.out)
     obtain⟨m,hm⟩:∃m,(P++probK ss i j).length=m:=⟨_,rfl⟩
     have HM:=ι hm
     have hmb:m≤200:=by rw[← hm,List.length_append];omega
     rw[hm] at HO ⊢
     clear hm hpk
     cases hb:pB ss i j with
     | false =>
      rw[hb] at HCE
      have HS:=ι (HN.out hb)
      clear HY HN hb
      go_wp2_with (first|(refine b6u rfl (.tmp 4) rfl g1 rfl L HRL.out AW.out ?_)|(go_at_call 19;refine HCE.out.mono ?_;rintro e w3 ⟨rfl,hb3⟩;have O3:=ι (dsk.a1h HO.out hb3);have B3:=ι (a0b HB.out hb3);clear hb3))
      go_roundw
      case rel=>exact⟨j+1,q,k,by omega,by go_num,by rw[HS.out,HM.out],by rw[HS.out,HM.out];exact O3,B3⟩
      case measure=>simp[intOf];omega
     | true =>
      rw[hb] at HCE
      have HS:=ι (HY.out hb)
      clear HY HN hb
      go_wp2_with (first
       | (refine b6u rfl (.tmp 4) rfl g1 rfl L HRL.out AW.out ?_)
       | (go_at_call 19;refine HCE.out.mono ?_;rintro e w3 ⟨rfl,hb3⟩;have O3:=ι (dsk.a1h HO.out hb3);have B3:=ι (a0b HB.out hb3);clear hb3)
       | (refine a0i a6k (by decide) rfl (.tmp 26) rfl [.int .i64 ki,.int .i64 (j:Int)] rfl rfl ?_)
       | (at_builtin;refine b4c a6k rfl (.tmp 23) (.tmp 27) rfl w2.heap.size _ m _ rfl (O3.out.alloc _) _ 1 [.int .i64 ki,.int .i64 (j:Int)] rfl (a0z _ _ _ _ rfl) (by simp[Value.oneCell']) (by omega) (by rw[size_alloc];have:=B3.out.size;omega) ?_;intro pa ca wa ho hb;have O4:=ι ho;have B4:=ι ((a0a B3.out _).trans hb);clear ho hb))
      have HLN:Hid ((P++probK ss i (j+1)).length=m+1):=ι (by rw[HS.out,← List.append_assoc,List.length_append,HM.out];rfl)
      have HCN:Hid (prsC (P++probK ss i (j+1))=prsC (P++probK ss i j)++[.int .i64 ki,.int .i64 (j:Int)]):=ι (by rw[HS.out,← List.append_assoc,a7h,prC,HKI.out])
      go_roundw
      case rel=>exact⟨j+1,pa,ca,by omega,by go_num,by rw[HLN.out],by rw[HLN.out,HCN.out];exact O4,B4⟩
      case measure=>simp[intOf];omega
    ·obtain rfl:j=24:=by omega
     rw[← HNX.out] at HO ⊢
     have hpl1:=HPL.out (i+1)
     rw[← HKI.out]
     go_wp2_with fail
     go_roundw
     case rel=>exact⟨i+1,q,k,by omega,by go_num,rfl,HO,HB⟩
     case measure=>have hki:=HKI.out;simp[intOf];omega
  ·have hi5:i=5:=by omega
   obtain⟨ki,hki⟩:∃ki:Int,((i+1:Nat):Int)=ki:=⟨_,rfl⟩
   have hk6:¬(ki≤5):=by omega
   rw[hki]
   clear hki hlt hi
   rw[hi5] at HO ⊢
   have hpl:=HPL.out 5
   have HNX:Hid (probs ss=probsU ss 5++probK ss 5 25):=ι rfl
   have hz1:probK ss 5 1=[]:=by rw[a8s (show pB ss 5 0=false from rfl)];rfl
   obtain⟨P,hP⟩:∃P,probsU ss 5=P:=⟨_,rfl⟩
   have HO0:Hid (rows.Own wr w2.heap.size 39 2 (.slice q (P++probK ss 5 1).length k) (P++probK ss 5 1).length (prsC (P++probK ss 5 1))):=ι (by rw[hz1,List.append_nil,← hP];exact HO.out)
   have HLZ:Hid (P.length=(P++probK ss 5 1).length):=ι (by rw[hz1,List.append_nil])
   rw[hP] at HNX hpl ⊢
   rw[HLZ.out]
   have HBB:=HB
   have HWW:Hid (∀w',Below w2.heap.size w2 w'→Below w.heap.size w w'):=ι fun w' hb=>a0b B2.out hb
   clear hP HO HLZ hz1 HB HEN
   go_wp2_with fail
   go_loopw [3,7] (fun lv jv wr=>∃(j:Nat) (q:Option Addr) (k:Nat),1≤j∧j≤25∧jv = .int .i64 (j:Int)∧lv = .slice q (P++probK ss 5 j).length k∧Hid (rows.Own wr w2.heap.size 39 2 (.slice q (P++probK ss 5 j).length k) (P++probK ss 5 j).length (prsC (P++probK ss 5 j)))∧Hid (Below w2.heap.size w2 wr)) (fun _ jv _=>25-(intOf jv).toNat)
   case atStart=>exact⟨1,q,k,by omega,by omega,rfl,by rw[List.length_append],HO0,HBB⟩
   case round =>
    clear HO0 HBB
    obtain⟨j,q,k,hj1,hj,rfl,rfl,HO,HB⟩:=hrel
    by_cases hjl:j<25
    ·have hjli:(j:Int)≤24:=by omega
     have HCE:=ι (HOW.out j wr (HWW.out _ HB.out))
     have hob:=HOL.out j 16
     have hpk:=HPK.out 5 j
     have HSH:Hid (pB ss 5 j=decide (1<ownC ss j 16)):=ι (by show shrB ss j=_;rw[shrB,decide_eq_true hj1,Bool.true_and])
     have HY:=ι fun h=>a9f (ss:=ss) (i:=5) (m:=j) h
     have HN:=ι fun h=>a8s (ss:=ss) (i:=5) (m:=j) h
     obtain⟨m,hm⟩:∃m,(P++probK ss 5 j).length=m:=⟨_,rfl⟩
     have HM:=ι hm
     have hmb:m≤200:=by rw[← hm,List.length_append];omega
     rw[hm] at HO ⊢
     generalize ownC ss j 16=oc at *
     clear hm hpk
     by_cases hoc:1<oc
     ·have hoci:(1:Int)<oc:=by omega
      have HS:=ι (HY.out (by rw[HSH.out];exact decide_eq_true hoc))
      clear HY HN hoc HSH
      go_wp2_with (first
       | (go_at_call 20;refine HCE.out.mono ?_;rintro e w3 ⟨rfl,hb3⟩;have O3:=ι (dsk.a1h HO.out hb3);have B3:=ι (a0b HB.out hb3);clear hb3)
       | (refine wpList_buildTo rfl 39 #[(0,.const (.int .i64 6)),(1,.tmp 38)] rfl (some 39) rfl #[.int .i64 6,.int .i64 (j:Int)] (by rfl) ?_)
       | (refine a0i a6k (by decide) rfl (.tmp 39) rfl [.int .i64 6,.int .i64 (j:Int)] rfl rfl ?_)
       | (at_builtin;refine b4c a6k rfl (.tmp 37) (.tmp 40) rfl w2.heap.size _ m _ rfl (O3.out.alloc _) _ 1 [.int .i64 6,.int .i64 (j:Int)] rfl (a0z _ _ _ _ rfl) (by simp[Value.oneCell']) (by omega) (by rw[size_alloc];have:=B3.out.size;omega) ?_;intro pa ca wa ho hb;have O4:=ι ho;have B4:=ι ((a0a B3.out _).trans hb);clear ho hb))
      have HLN:Hid ((P++probK ss 5 (j+1)).length=m+1):=ι (by rw[HS.out,← List.append_assoc,List.length_append,HM.out];rfl)
      have HCN:Hid (prsC (P++probK ss 5 (j+1))=prsC (P++probK ss 5 j)++[.int .i64 6,.int .i64 (j:Int)]):=ι (by rw[HS.out,← List.append_assoc,a7h,prC];rfl)
      go_roundw
      case rel=>exact⟨j+1,pa,ca,by omega,by omega,by go_num,by rw[HLN.out],by rw[HLN.out,HCN.out];exact O4,B4⟩
      case measure=>simp[intOf];omega
     ·have hoci:(oc:Int)≤1:=by omega
      have HS:=ι (HN.out (by rw[HSH.out];exact decide_eq_false hoc))
      clear HY HN hoc HSH
      go_wp2_with (go_at_call 20;refine HCE.out.mono ?_;rintro e w3 ⟨rfl,hb3⟩;have O3:=ι (dsk.a1h HO.out hb3);have B3:=ι (a0b HB.out hb3);clear hb3)
      go_roundw
      case rel=>exact⟨j+1,q,k,by omega,by omega,by go_num,by rw[HS.out,HM.out],by rw[HS.out,HM.out];exact O3,B3⟩
      case measure=>simp[intOf];omega
    ·obtain rfl:j=25:=by omega
     rw[← HNX.out] at HO ⊢
     have HOO:=HO
     clear HO
     go_wp2_with fail
     go_ret
     exact⟨q,k,rfl,HOO.out.rd,HWW.out _ HB.out⟩
end lk
namespace lk
set_option maxRecDepth 100000
open Go.ChangeShapes Go.WideShapes Go.ChangeAt Go.RowKit
open rows
open sec
open dsk (a0h a0o)
open ly
open fs (b1w b2j a6g)
theorem ino_blk{ss:List (List Int)}(hs:Secs ss)(m:Int)(i:Nat):0≤(inoAt ss m).b.getD i 0∧(inoAt ss m).b.getD i 0<25:=by
 by_cases hi:i<need (inoAt ss m).size.toNat
 ·by_cases h:(inoAt ss m).kind=1
  ·have:=b2j h hi;omega
  ·rw[(a6g h).1] at hi
   exact absurd hi (Nat.not_lt_zero i)
 ·rw[b1w hs hi];omega
theorem fieldB(x:Ino)(hx:x.b.length=4)(w:World):(Instr.field 88 (aggI x) 2).run Tryz.prog w = .ok (.agg (i64s x.b).toArray) w:=by
 obtain⟨kd,sz,bl⟩:=x
 rcases bl with _|⟨a,_|⟨b,_|⟨c,_|⟨d,_|⟨e,r⟩⟩⟩⟩⟩<;>simp at hx
 kernel_rfl
def ownL(ss:List (List Int))(n:Nat):List Int:=(List.range 25).map fun b=>(ownC ss b n:Int)
def ownI(ss:List (List Int))(n:Nat)(bl:List Int)(i:Nat):List Int:=(List.range 25).map fun b=>((ownC ss b n+inC true b bl i:Nat):Int)
theorem b2t(ss:List (List Int))(n:Nat):(ownL ss n).length=25:=by simp[ownL]
theorem b8j(ss:List (List Int))(n:Nat)(bl:List Int)(i:Nat):(ownI ss n bl i).length=25:=by simp[ownI]
theorem b5t(ss:List (List Int))(n:Nat)(bl:List Int):ownI ss n bl 0=ownL ss n:=by
 simp[ownI,ownL,inC,cntL]
theorem ownL_no{ss:List (List Int)}{n:Nat}(h:takenB ss (n:Int)=false):ownL ss (n+1)=ownL ss n:=by
 simp[ownL,ownC,h]
theorem b5l{ss:List (List Int)}(hs:Secs ss){n:Nat}(h:takenB ss (n:Int)=true):ownI ss n (inoAt ss (n:Int)).b 4=ownL ss (n+1):=by
 have h4:=a1g hs (n:Int)
 simp only[ownI,ownL,ownC,h,inC,if_true]
 rw[List.take_of_length_le (by omega)]
theorem b4k(ss:List (List Int))(n:Nat)(bl:List Int)(i m:Nat)(hm:m<25):(ownI ss n bl i).getD m 0=((ownC ss m n+inC true m bl i:Nat):Int):=by
 simp[ownI,List.getD,hm]
theorem b5w{ss:List (List Int)}{n:Nat}{bl:List Int}{i m:Nat}(hi:i<bl.length)(hm:bl.getD i 0=(m:Int))(hm25:m<25) :
  ownI ss n bl (i+1)=(ownI ss n bl i).set m ((ownI ss n bl i).getD m 0+1):=by
 rw[b4k ss n bl i m hm25]
 refine List.ext_getElem (by simp[ownI]) fun j h1 h2 => ?_
 have hj:j<25:=by simpa [ownI] using h1
 rw[List.getElem_set]
 simp only[ownI,List.getElem_map,List.getElem_range]
 rw[b2a true j bl hi,hm]
 by_cases e:m=j
 ·subst e;simp;omega
 ·rw[if_neg e,show (((m:Int) == (j:Int))=false) from by rw[beq_eq_false_iff_ne];omega]
  simp
theorem ownL_at(ss:List (List Int))(n m:Nat)(hm:m<25):(ownL ss n).getD m 0=(ownC ss m n:Int):=by
 simp[ownL,List.getD,hm]
theorem b7x(ss:List (List Int)):those (shrL (ownL ss 16)) 25=those (shrB ss) 25:=by
 unfold those
 refine List.filter_congr fun b hb => ?_
 rw[shrL,shrB,ownL_at ss 16 b (List.mem_range.1 hb)]
 congr 1
 exact decide_eq_decide.2 (by omega)
def zero25:List Int:=List.replicate 25 0
theorem b6z:(Tryz.prog.info? 109).map (·.size)=some 25:=by kernel_rfl
theorem lit_o:(#[.int .i64 0,.int .i64 0,.int .i64 0,.int .i64 0,.int .i64 0,.int .i64 0,.int .i64 0,.int .i64 0,.int .i64 0,.int .i64 0,.int .i64 0,.int .i64 0,.int .i64 0,.int .i64 0,.int .i64 0,.int .i64 0,.int .i64 0,.int .i64 0,.int .i64 0,.int .i64 0,.int .i64 0,.int .i64 0,.int .i64 0,.int .i64 0,.int .i64 0]:Array Value)=(i64s zero25).toArray:=by kernel_rfl
theorem a8x(w:World):RowO (w.alloc (.cells #[.int .i64 0,.int .i64 0,.int .i64 0,.int .i64 0,.int .i64 0,.int .i64 0,.int .i64 0,.int .i64 0,.int .i64 0,.int .i64 0,.int .i64 0,.int .i64 0,.int .i64 0,.int .i64 0,.int .i64 0,.int .i64 0,.int .i64 0,.int .i64 0,.int .i64 0,.int .i64 0,.int .i64 0,.int .i64 0,.int .i64 0,.int .i64 0,.int .i64 0] 109)) w.heap.size zero25:=by
 rw[lit_o]
 exact heap_alloc_new _ _
theorem RowO.later{w w':World}{g:Nat}{l:List Int}(h:RowO w g l)(k:Below w.heap.size w w'):RowO w' g l:=(k.block g (Array.getElem?_eq_some_iff.1 h).1).trans h
theorem RowO.frozen{w:World}{g:Nat}{l:List Int}(h:RowO w g l)(k:Nat):w.frozen? ⟨g,k,none⟩=false:=a0h h k
theorem RowO.set{w:World}{g:Nat}{l:List Int}(h:RowO w g l)(k:Nat)(z:Int):RowO (w.setCell ⟨g,k,none⟩ (.int .i64 z)) g (l.set k z):=by
 unfold RowO
 rw[a0o h]
 congr 2
 simp[i64s,List.map_set]
theorem RowO.other{w:World}{g g2 k:Nat}{l:List Int}(h:RowO w g l)(hg:g≠g2)(z:Value):RowO (w.setCell ⟨g2,k,none⟩ z) g l:=(dsk.Touch.setCell (S:=fun i=>i=g2) (dsk.Touch.refl _ w) ⟨g2,k,none⟩ rfl z).block g (Array.getElem?_eq_some_iff.1 h).1 hg |>.trans h
theorem b7k(s:List Int):∀v∈i64s s,v.oneCell'=true:=by
 intro v hv
 obtain⟨z,_,rfl⟩:=List.mem_map.1 hv
 rfl
def aggO(l:List Int):Value := .agg (i64s l).toArray
theorem load_o{ops:Array Oper}{rest:List Oper}{o:Oper}{a:Act}{w:World}{Q:Exit→Act→World→Prop}(hgd:o.guard=none)(x:Operand)(ho:o.op = .load 109 x)
  (g:Nat) (hx:a.eval x = .pointer (some ⟨g,0,none⟩)) (l:List Int) (hs:l.length=25) (hg:RowO w g l)
  (h:wpList Tryz.prog ops Q rest (a.put o.dst (aggO l)) w):wpList Tryz.prog ops Q (o::rest) a w :=
 wpList_load_row hgd 109 x ho g hx 109 _ _ _ hg Tryz.underlying109 rfl (by rw[b6z];simp[i64s,hs]) h
theorem b5x{ops:Array Oper}{rest:List Oper}{o:Oper}{a:Act}{w:World}{Q:Exit→Act→World→Prop}(hgd:o.guard=none)(x y:Operand)(ho:o.op = .store 109 x y)(hd:o.dst=none)
  (g:Nat) (s old:List Int) (hx:a.eval x = .pointer (some ⟨g,0,none⟩)) (hy:a.eval y=aggO s) (hs:s.length=25) (hold:old.length=25) (hg:RowO w g old)
  (h:∀w',RowO w' g s→Below g w w'→wpList Tryz.prog ops Q rest a w'):wpList Tryz.prog ops Q (o::rest) a w:=by
 have hl:(i64s s).toArray.size=25:=by simp[i64s,hs]
 refine wpList_store_row hgd 109 x y ho g (i64s s).toArray hx hy 109 _ hg (by rw[b6z,hl]) (by simp[i64s,hs,hold]) (by simp only[List.all_toArray];exact List.all_eq_true.2 (b7k s)) ?_
 rw[hd]
 exact h _ (setRow_heap w g _ _ _ _ hg) ((Below.refl g w).trans ⟨rfl,rfl,rfl,by simp[World.setRow],fun k hk=>setRow_other w g k _ (by omega)⟩)
theorem ret_o{fn:Func}{p:Tmp}{R:Ending→World→Prop}{a:Act}{w:World}(h:fn.results = #[.cell p 109])(g:Nat)(s:List Int)(hp:a.tmps.getD p undef = .pointer (some ⟨g,0,none⟩))(hs:s.length=25)(hg:RowO w g s)
  (hd:a.defers=[]) (hR:R (.returned (aggO s)) w):bodyPost Tryz.prog fn R .ret a w :=
 bodyPost_ret (results_cell_row h a.tmps w g _ _ _ _ hp hg Tryz.underlying109 rfl (by rw[b6z];simp[i64s,hs])) hd hR
structure OAt (w:World) (l:List Int) (wr:World):Prop where
 r0:RowO wr w.heap.size zero25
 rb:RowO wr (w.heap.size+1) l
 below:Below w.heap.size w wr
theorem OAt.later{w:World}{l:List Int}{a b:World}(h:OAt w l a)(k:Below a.heap.size a b):OAt w l b:=⟨h.r0.later k,h.rb.later k,a0b h.below k⟩
theorem OAt.set{w:World}{l:List Int}{a:World}(h:OAt w l a)(k:Nat)(z:Int):OAt w (l.set k z) (a.setCell ⟨w.heap.size+1,k,none⟩ (.int .i64 z)) :=
 ⟨h.r0.other (by omega) _,h.rb.set k z,h.below.setCell (p:=⟨w.heap.size+1,k,none⟩) (by simp) _⟩
set_option maxRecDepth 100000 in
set_option maxHeartbeats 3200000 in
theorem b3x(w:World)(d:Value)(ss:List (List Int))(hd:Dk w d ss):Calls Tryz.prog 59 #[d] w (Rt w (aggO (ownL ss 16))):=by
 have hss:=hd.secs.1
 have HI:=ι fun(k:Nat) (hk:k<16) w' (h:Below w.heap.size w w')=>b2m w' d ss (k:Int) (hd.later h) (a0l (by omega))
 have HT:=ι fun(k:Nat) (hk:k<16) w' (h:Below w.heap.size w w')=>b5n w' d ss (k:Int) (hd.later h) (a0l (by omega))
 have HF:=ι fun k i=>ino_blk hss k i
 have HF4:=ι fun k=>a1g hss k
 have HOF:=ι fun n h=>b5l hss (n:=n) h
 have HLE:=ι fun b n=>a8h ss hss b n
 have HLN:=ι (b2t ss 16)
 have HNO:=ι fun n h=>ownL_no (ss:=ss) (n:=n) h
 clear hd hss
 have A0:=a8x w
 obtain⟨W1,hW1⟩:∃W1,w.alloc (.cells #[.int .i64 0,.int .i64 0,.int .i64 0,.int .i64 0,.int .i64 0,.int .i64 0,.int .i64 0,.int .i64 0,.int .i64 0,.int .i64 0,.int .i64 0,.int .i64 0,.int .i64 0,.int .i64 0,.int .i64 0,.int .i64 0,.int .i64 0,.int .i64 0,.int .i64 0,.int .i64 0,.int .i64 0,.int .i64 0,.int .i64 0,.int .i64 0,.int .i64 0] 109)=W1:=⟨_,rfl⟩
 have hz1:W1.heap.size=w.heap.size+1:=by rw[← hW1];simp
 have A1:=a8x W1
 obtain⟨W2,hW2⟩:∃W2,W1.alloc (.cells #[.int .i64 0,.int .i64 0,.int .i64 0,.int .i64 0,.int .i64 0,.int .i64 0,.int .i64 0,.int .i64 0,.int .i64 0,.int .i64 0,.int .i64 0,.int .i64 0,.int .i64 0,.int .i64 0,.int .i64 0,.int .i64 0,.int .i64 0,.int .i64 0,.int .i64 0,.int .i64 0,.int .i64 0,.int .i64 0,.int .i64 0,.int .i64 0,.int .i64 0] 109)=W2:=⟨_,rfl⟩
 have hz2:W2.heap.size=w.heap.size+2:=by rw[← hW2];simp[hz1]
 have b1:Below w.heap.size w W1:=by rw[← hW1];exact a0a (Below.refl _ _) _
 have b2:Below W1.heap.size W1 W2:=by rw[← hW2];exact a0a (Below.refl _ _) _
 have hz0:ownL ss 0=zero25:=by rw[ownL];rfl
 have F0:Hid (OAt w (ownL ss 0) W2):=ι ⟨by rw[hW1] at A0;exact A0.later b2,by rw[hW2,hz1] at A1;rw[hz0];exact A1,a0b b1 b2⟩
 clear b1 b2 A0 A1 hz0
 go_enter Tryz.func59,Tryz.ntmps59
 go_upto_region 2 with fail
 clear hW1 hW2 hz1 hz2
 go_wp2_with fail
 go_loopw [4,6,7] (fun _ _ kv wr=>∃k:Nat,k≤16∧kv = .int .i64 (k:Int)∧Hid (OAt w (ownL ss k) wr)) (fun _ _ kv _=>16-(intOf kv).toNat)
 case atStart=>exact⟨0,by omega,rfl,F0⟩
 case round =>
  obtain⟨k,hk,rfl,HN⟩:=hrel
  clear F0
  by_cases hlt:k<16
  ·have hlti:(k:Int)<16:=by omega
   have HIk:=ι (HI.out k hlt)
   have HTk:=ι (HT.out k hlt wr HN.out.below)
   cases ht:takenB ss (k:Int) with
   | false =>
    rw[ht] at HTk
    have HS:=ι (HNO.out k ht)
    clear ht HIk
    go_wp2_with (go_at_call 84;refine HTk.out.mono ?_;rintro e w1 ⟨rfl,hb⟩;have N1:=ι (HN.out.later hb);clear hb)
    go_roundw
    case rel=>exact⟨k+1,by omega,by go_num,by rw[HS.out];exact N1⟩
    case measure=>simp[intOf];omega
   | true =>
    rw[ht] at HTk
    have HS:=ι (HOF.out k ht)
    clear ht
    have HB:=ι (HF.out (k:Int))
    have HFD:=ι (fieldB (inoAt ss (k:Int)) (HF4.out (k:Int)))
    have HL4:Hid ((inoAt ss (k:Int)).b.length=4):=ι (HF4.out (k:Int))
    generalize inoAt ss (k:Int)=x at HIk HB HL4 HFD HS
    have hfd:=fun W=>HFD.out W
    go_wp2_with (first|(go_at_call 84;refine HTk.out.mono ?_;rintro e w1 ⟨rfl,hb⟩;have N1:=ι (HN.out.later hb);clear hb)|(go_at_call 43;refine(HIk.out w1 N1.out.below).mono ?_;rintro e w2 ⟨rfl,hb⟩;have N2:=ι (N1.out.later hb);clear hb))
    have HXB:=ι fun j hj h4 W=>index4 x.b j hj h4 W
    go_loopw [6,18] (fun _ jv wr=>∃j:Nat,j≤4∧jv = .int .i64 (j:Int)∧Hid (OAt w (ownI ss k x.b j) wr)) (fun _ jv _=>4-(intOf jv).toNat)
    case atStart=>exact⟨0,by omega,rfl,ι (by rw[b5t];exact N2.out)⟩
    case round =>
     obtain⟨j,hj,rfl,HNj⟩:=hrel
     clear N1 N2
     by_cases hltj:j<4
     ·have hltji:(j:Int)<4:=by omega
      have hjl:j<x.b.length:=by rw[HL4.out];exact hltj
      have hxb:=HXB.out j hjl hltj
      have hz:=HB.out j
      obtain⟨m,hm⟩:=Int.eq_ofNat_of_zero_le hz.1
      have hm24:m<25:=by omega
      have HZ:=ι (b5w (ss:=ss) (n:=k) hjl hm hm24)
      have hat:=b4k ss k x.b j m hm24
      have hle1:=HLE.out m k
      have hle2:=b6e true m x.b j
      rw[hm] at hxb
      have hmi:(m:Int)<25:=by omega
      have hcm:=HNj.out.rb.cell (k:=m) (by rw[b8j];exact hm24)
      have hfm:=HNj.out.rb.frozen m
      rw[hat] at hcm HZ
      have hz100:((ownC ss m k+inC true m x.b j:Nat):Int)≤200:=by omega
      generalize ownC ss m k+inC true m x.b j=z at *
      clear hz hm hat hle1 hle2
      go_wp2_with fail
      go_roundw
      case rel=>exact⟨j+1,by omega,by go_num,ι (by rw[HZ.out];exact HNj.out.set m _)⟩
      case measure=>simp[intOf];omega
     ·obtain rfl:j=4:=by omega
      go_wp2_with fail
      go_roundw
      case rel=>exact⟨k+1,by omega,by go_num,ι (by rw[← HS.out];exact HNj.out)⟩
      case measure=>simp[intOf];omega
  ·obtain rfl:k=16:=by omega
   have HR0:=ι HN.out.r0
   have HRB:=ι HN.out.rb
   have HBB:=ι HN.out.below
   go_wp2_with (first|(refine load_o rfl (.tmp 3) rfl (w.heap.size+1) rfl (ownL ss 16) HLN.out HRB.out ?_)|(refine b5x rfl (.tmp 2) (.tmp 28) rfl rfl w.heap.size (ownL ss 16) zero25 rfl rfl HLN.out (by decide) HR0.out ?_;intro w4 hA hB;have A4:=ι hA;have B4:=ι (HBB.out.trans hB);clear hA hB))
   exact ret_o rfl w.heap.size (ownL ss 16) rfl HLN.out A4.out rfl ⟨rfl,B4.out⟩
end lk
namespace lk
set_option maxRecDepth 100000
open Go.ChangeShapes Go.WideShapes Go.ChangeAt Go.RowKit
open rows
open sec
open ly
open rng
attribute [local go_sem] Oper.semAt_some
theorem a3v{p q:Nat→Bool}(h:∀k,q k=true→p k=true)(m:Nat):(those p m).filter q=those q m:=by
 rw[those,those,List.filter_filter]
 congr 1
 funext k
 cases hq:q k with
 | true=>rw[h k hq];rfl
 | false=>rfl
theorem a9d{ss:List (List Int)}(k:Nat)(h:dangB ss k=true):entB ss k=true:=by
 rw[dangB,Bool.and_eq_true] at h;exact h.1
theorem a9c{ss:List (List Int)}(k:Nat)(h:lostB ss k=true):entB ss k=true:=by
 rw[lostB,Bool.and_eq_true] at h;exact h.1
set_option maxHeartbeats 1600000 in
theorem b3c(w:World)(p:Option Addr)(ss:List (List Int))(k bd:Nat)(h:Dk w (.pointer p) ss)(hu:entB ss k=true)(hbx:Go.Boxed w bd 25 (.pointer p)) :
  Calls Tryz.prog 54 #[aggE (entAt ss (k:Int)),.pointer (some ⟨bd,0,none⟩)] w (Rt w (.bool (dangB ss k))):=by
 have HKD:=ι fun w' (hb:Below w.heap.size w w')=>a6w w' (.pointer p) ss (entAt ss (k:Int)).target (h.later hb) (by have:=a6h h.secs.1 (k:Int);exact a0l (by omega))
 have HD:Hid (dangB ss k=(kindAt ss (entAt ss (k:Int)).target == 0)):=ι (by rw[dangB,show (entAt ss (k:Int)).used=true from hu,a4f];rfl)
 generalize dangB ss k=db at *
 generalize entAt ss (k:Int)=x at *
 obtain⟨u,pa,nm,tg⟩:=x
 simp only at HKD HD
 generalize kindAt ss tg=kd at *
 have B1:=ι (a0a (Below.refl w.heap.size w) (.cells #[.bool u,.int .i64 pa,.string nm,.int .i64 tg] 65))
 have cd:=(hbx.alloc (.cells #[.bool u,.int .i64 pa,.string nm,.int .i64 tg] 65)).cell
 have HK1:=ι (HKD.out _ B1.out)
 clear h hu hbx HKD
 go_enter Tryz.func54,Tryz.ntmps54
 go_wp2_with (go_at_call 21;refine HK1.out.mono ?_;rintro e w2 ⟨rfl,hb⟩;have B2:=ι (a0b B1.out hb);clear hb)
 go_ret
 exact⟨by rw[HD.out]<;>rfl,B2.out⟩
set_option maxHeartbeats 1600000 in
theorem b4e(w:World)(p:Option Addr)(ss:List (List Int))(k bd br:Nat)(q:Option Addr)(n c:Nat)(rs:List Int)(h:Dk w (.pointer p) ss)(hu:entB ss k=true)(hbx:Go.Boxed w bd 25 (.pointer p))(hbr:Go.Boxed w br 34 (.slice q n c))(hr:Rd w 1 (.slice q n c) n (i64s rs))(hn:n≤1000)(hrs:∀z:Int,0≤z→z<16→rs.contains z=reachB ss z) :
  Calls Tryz.prog 55 #[aggE (entAt ss (k:Int)),.pointer (some ⟨br,0,none⟩),.pointer (some ⟨bd,0,none⟩)] w (Rt w (.bool (lostB ss k))):=by
 have HKD:=ι fun w' (hb:Below w.heap.size w w')=>a6w w' (.pointer p) ss (entAt ss (k:Int)).parent (h.later hb) (by have:=a6h h.secs.1 (k:Int);exact a0l (by omega))
 have HCT:=ι fun w' (hb:Below w.heap.size w w')=>a3o (entAt ss (k:Int)).parent q n c rs w' (hr.later hb) hn
 have HD:Hid (lostB ss k=(!rs.contains (entAt ss (k:Int)).parent || (kindAt ss (entAt ss (k:Int)).parent != 2))):=ι (by
  have e:=fs.a1i (ss:=ss) (k:=(k:Int)) hu
  rw[lostB,show (entAt ss (k:Int)).used=true from hu,hrs _ e.1 e.2.1,bne,a4f];rfl)
 generalize lostB ss k=db at *
 generalize entAt ss (k:Int)=x at *
 obtain⟨u,pa,nm,tg⟩:=x
 simp only at HKD HD HCT
 generalize kindAt ss pa=kd at *
 generalize rs.contains pa=ct at *
 have B1:=ι (a0a (Below.refl w.heap.size w) (.cells #[.bool u,.int .i64 pa,.string nm,.int .i64 tg] 65))
 have cd:=(hbx.alloc (.cells #[.bool u,.int .i64 pa,.string nm,.int .i64 tg] 65)).cell
 have cr:=(hbr.alloc (.cells #[.bool u,.int .i64 pa,.string nm,.int .i64 tg] 65)).cell
 have HK1:=ι (HKD.out _ B1.out)
 have HC1:=ι (HCT.out _ B1.out)
 clear h hu hbx hbr hr HKD HCT hrs
 cases ct with
 | false =>
  go_enter Tryz.func55,Tryz.ntmps55
  go_wp2_with (go_at_call 23;refine HC1.out.mono ?_;rintro e w2 ⟨rfl,hw⟩;obtain rfl:=hw.symm)
  go_ret
  exact⟨by rw[HD.out]<;>rfl,B1.out⟩
 | true =>
  go_enter Tryz.func55,Tryz.ntmps55
  go_wp2_with (first|(go_at_call 23;refine HC1.out.mono ?_;rintro e w2 ⟨rfl,hw⟩;obtain rfl:=hw.symm)|(go_at_call 21;refine HK1.out.mono ?_;rintro e w3 ⟨rfl,hb⟩;have B2:=ι (a0b B1.out hb);clear hb))
  go_ret
  exact⟨by rw[HD.out]<;>rfl,B2.out⟩
set_option maxRecDepth 100000 in
set_option maxHeartbeats 4000000 in
theorem b7l(w0:World)(p:Option Addr)(ss:List (List Int))(hd:Dk w0 (.pointer p) ss)(lo:Nat)(V1:World)(bc:Nat)(hbc:Go.Boxed V1 bc 25 (.pointer p))(bd bb:Nat)(hbd:Go.Boxed V1 bd 25 (.pointer p))(hbb:Go.Boxed V1 bb 106 (.func (.func 54) #[] #[.pointer (some ⟨bc,0,none⟩)]))(hlo:lo≤bd∧lo≤bb∧lo≤bc)(hlw:w0.heap.size≤lo)(m:Nat→Obj→Prop)(w:World)(hk:Keep w0 lo V1 w)(h1:∀b o,m b o→w0.heap.size≤b)(h2:∀b o,m b o→b<lo∨softP o∨V1.heap.size≤b) :
  Seq Tryz.prog 80 #[.pointer (some ⟨bd,0,none⟩),.pointer (some ⟨bb,0,none⟩)] (fun k:Nat => #[.int .i64 (k:Int)]) softP m (fun ys=>ys=those (dangB ss) 24) (fun pre=>pre <+: those (dangB ss) 24) w:=by
 intro l J Jx W hW hZW hJ hJx hY h0
 have HJ:=ι hJ
 have HJX:=ι hJx
 have HY:=ι hY
 have H1:=ι h1
 have H2:=ι h2
 have HZW:=ι hZW
 have HD:=ι hd
 have HLW:=ι hlw
 have HBD:=ι fun V (h:Keep w0 lo V1 V)=>h.boxed hbd hlo.1 (by decide)
 have HBB:=ι fun V (h:Keep w0 lo V1 V)=>h.boxed hbb hlo.2.1 (by decide)
 have HBA:=ι fun(k:Nat) (hu:entB ss k=true) V (h:Keep w0 lo V1 V)=>b3c V p ss k bc (hd.later h.below) hu (h.boxed hbc hlo.2.2 (by decide))
 clear hbc
 have hK0:Keep w0 lo V1 W:=hk.calm (B:=w0.heap.size) ⟨hW.os,hW.tape,hW.output,hW.size,fun k o hi ho=>(hW.block k (Array.getElem?_eq_some_iff.1 hi).1).trans hi⟩ (Nat.le_refl _)
 have hs0:=hK0.below.size
 have HV1:=ι hK0.size
 have HS0:=ι hs0
 have hb1:=a0a (a0a (Below.refl W.heap.size W) (.cells #[.func (.yield l) #[] #[]] 69)) (.cells #[.pointer p] 25)
 have hy1:=(Go.Boxed.new W 69 (.func (.yield l) #[] #[])).alloc (.cells #[.pointer p] 25)
 have hd1:=Go.Boxed.new (W.alloc (.cells #[.func (.yield l) #[] #[]] 69)) 25 (.pointer p)
 rw[World.size_alloc] at hd1
 have hsz:((W.alloc (.cells #[.func (.yield l) #[] #[]] 69)).alloc (.cells #[.pointer p] 25)).heap.size=W.heap.size+2:=by simp[World.size_alloc]
 have cd:(W.alloc (.cells #[.func (.yield l) #[] #[]] 69)).cell? ⟨bd,0,none⟩=some (.pointer p):=((HBD.out W hK0).alloc _).cell
 obtain⟨W2,hW2⟩:∃W2,(W.alloc (.cells #[.func (.yield l) #[] #[]] 69)).alloc (.cells #[.pointer p] 25)=W2:=⟨_,rfl⟩
 rw[hW2] at hb1 hy1 hd1 hsz
 have HK2:Hid (Keep w0 lo V1 W2):=ι (hK0.later hb1)
 have HY2:=ι hy1
 have HD2:=ι hd1
 have HSZ:=ι hsz
 have HJ2:Hid (J [] W2):=ι (hJ _ _ _ h0 (rng.Calm.of_below hb1))
 have HEU:=ι fun k h=>a9d (ss:=ss) k h
 have HPD:Hid ((those (entB ss) 24).filter (dangB ss)=those (dangB ss) 24):=ι (a3v (fun k h=>a9d k h) 24)
 generalize (dangB ss)=pp at *
 clear hJ hJx hY h1 h2 hbd hbb hlo hlw hk hW hZW hK0 hb1 hy1 hd1 hsz h0 hd hs0
 refine(callsIn_wide (n:=10)).1 (callsIn_of_wp_marks Tryz.func80 rfl trivial ?_ rfl)
 simp only[Tryz.ntmps80,List.size_toArray,List.length_cons,List.length_nil,Nat.reduceAdd,Nat.reduceSub,Array.replicate_succ,Array.replicate_zero,List.push_toArray,List.append_toArray,List.nil_append,List.cons_append]
 gi_wp2_with (refine⟨trivial,?_⟩;gi_at_call 22;refine(callsIn_wide.2 (a3a _ _)).mono ?_;rintro e w2 ⟨rfl,rfl⟩)
 try rw[hW2]
 clear hW2 cd
 have HWM:Hid (W.heap.size≤W2.heap.size):=ι (by have:=HSZ.out;omega)
 refine a2f (gf:=44) (lb := #[.pointer (some ⟨W.heap.size+1,0,none⟩)]) rfl (enters_of Tryz.func44 (by kernel_rfl) rfl)
  (a2z softP w0 (.pointer p) ss HD.out (W.heap.size+1) (fun b o=>b=W2.heap.size+1∨m b o) W2 HK2.out.below HD2.out (fun b o hb=>by
   have h1:=HSZ.out
   have h2:=HS0.out
   rcases hb with hb|hb
   ·omega
   ·exact H1.out b o hb) (fun v hb=>by
   have h1:=HSZ.out
   rcases hb with hb|hb
   ·omega
   ·rcases HZW.out _ _ hb with h|h
    ·omega
    ·exact a0k (by decide) h)) (fun b o h=>(HZW.out b o h).imp (fun h=>by have:=HSZ.out;omega) id) a0f (fun _=>rfl)
  (fun pre V=>J (pre.filter pp) V∧Go.Boxed V W.heap.size 69 (.func (.yield l) #[] #[])∧Keep w0 lo V1 V∧W.heap.size≤V.heap.size)
  (fun c pre V=>c = .ret∧Jx (pre.filter pp) V)
  (fun s A B h hc=>⟨HJ.out _ _ _ h.1 (hc.mono HWM.out),hc.boxed h.2.1,h.2.2.1.calm hc (by have:=HWM.out;have:=HS0.out;omega),Nat.le_trans h.2.2.2 hc.size⟩)
  (fun c s A B h hc=>⟨h.1,HJX.out _ _ _ h.2 (hc.mono HWM.out)⟩)
  ⟨HJ2.out,HY2.out,HK2.out,HWM.out⟩
  (fun pre k a' V=>(J (pre.filter pp) V∧Go.Boxed V W.heap.size 69 (.func (.yield l) #[] #[])∧Keep w0 lo V1 V∧W.heap.size≤V.heap.size)∧∃Bx,AtE V Bx (entAt ss (k:Int))∧a'={ tmps := #[.func (.yield l) #[] #[],.pointer (some ⟨bd,0,none⟩),.pointer (some ⟨bb,0,none⟩),.pointer (some ⟨W.heap.size,0,none⟩),.int .i64 (k:Int),.pointer (some ⟨Bx,0,none⟩),.pointer p,.func (.func 44) #[] #[.pointer (some ⟨W.heap.size+1,0,none⟩)],.int .i64 (k:Int),aggE (entAt ss (k:Int)),undef,undef,undef,undef,undef,undef,undef,undef,undef],defers:=[] })
  (fun s k a' A B h hc=>by
   obtain⟨h1,Bx,h2,h3⟩:=h
   exact⟨⟨HJ.out _ _ _ h1.1 (hc.mono HWM.out),hc.boxed h1.2.1,h1.2.2.1.calm hc (by have:=HWM.out;have:=HS0.out;omega),Nat.le_trans h1.2.2.2 hc.size⟩,Bx,hc.block _ _ h2 (Or.inr rfl),h3⟩)
  ?assign ?body ?done ?stop
 case assign =>
  rintro l2 pre k V hI hsz _
  generalize entAt ss (k:Int)=x
  obtain⟨u,pa,nm,tg⟩:=x
  have HI2:=ι hI
  clear hI
  gi_wp2
  have hb:=a0a (Below.refl V.heap.size V) (.cells #[.bool u,.int .i64 pa,.string nm,.int .i64 tg] 65)
  exact⟨⟨⟨HJ.out _ _ _ HI2.out.1 (rng.Calm.of_below hb),HI2.out.2.1.alloc _,HI2.out.2.2.1.later hb,Nat.le_trans HI2.out.2.2.2 hb.size⟩,V.heap.size,a1t V ⟨u,pa,nm,tg⟩,rfl⟩,Turn.of_below hb⟩
 case body =>
  rintro l2 pre k a' V ⟨hI,Bx,hX,rfl⟩ hsz hsp
  have huk:entB ss k=true:=by
   have:=hsp.subset (List.mem_append_right _ (List.mem_singleton.2 rfl))
   exact(those_mem.1 this).2
  have hk24:k<24:=by
   have:=hsp.subset (List.mem_append_right _ (List.mem_singleton.2 rfl))
   exact(those_mem.1 this).1
  have hpk:pp k=true→(pre.filter pp)++[k] <+: those pp 24:=fun hk=>by
   have h:=hsp.filter pp
   rw[HPD.out,List.filter_append] at h
   simpa [hk] using h
  have HPK:=ι hpk
  have HFY:Hid (pp k=true→(pre++[k]).filter pp=pre.filter pp++[k]):=ι fun hk=>by rw[List.filter_append];simp[hk]
  have HFN:Hid (pp k=false→(pre++[k]).filter pp=pre.filter pp):=ι fun hk=>by rw[List.filter_append];simp[hk]
  have HYk:=ι fun V' hj hs hp=>HY.out (pre.filter pp) k V' hj hs hp
  have HI2:=ι hI
  have HIL:=ι fun V' (hb:Below V.heap.size V V')=>(show J (pre.filter pp) V'∧Go.Boxed V' W.heap.size 69 (.func (.yield l) #[] #[])∧Keep w0 lo V1 V'∧W.heap.size≤V'.heap.size from⟨HJ.out _ _ _ hI.1 (rng.Calm.of_below hb),(rng.Calm.of_below (B:=0) hb).boxed hI.2.1,hI.2.2.1.later hb,Nat.le_trans hI.2.2.2 hb.size⟩)
  have HBAD:=ι (HBA.out k huk V hI.2.2.1)
  have cb:=(HBB.out V hI.2.2.1).cell
  have cy:=hI.2.1.cell
  have hbx:Bx<V.heap.size:=(Array.getElem?_eq_some_iff.1 hX).1
  clear hI hsp huk hpk
  generalize entAt ss (k:Int)=x at *
  obtain⟨u,pa,nm,tg⟩:=x
  have x0:V.cell? ⟨Bx,0,none⟩=some (.bool u):=hX.cell0
  have x1:V.cell? ⟨Bx,1,none⟩=some (.int .i64 pa):=hX.cell1
  have x2:V.cell? ⟨Bx,2,none⟩=some (.string nm):=hX.cell2
  have x3:V.cell? ⟨Bx,3,none⟩=some (.int .i64 tg):=hX.cell3
  clear hX
  cases hb:pp k with
  | false =>
   rw[hb] at HBAD
   have HN:=ι (HFN.out hb)
   clear hb HYk
   gi_wp2_with (refine⟨trivial,?_⟩;gi_at_call 54;refine(a1p HBAD.out).mono ?_;rintro e w3 ⟨rfl,hb3⟩;have HB3:=ι hb3;clear hb3)
   refine⟨fun _ h=>(by cases h),?_⟩
   gi_wp2
   have h:=HIL.out _ HB3.out
   exact⟨⟨by rw[HN.out];exact h.1,h.2⟩,Turn.of_below HB3.out⟩
  | true =>
   rw[hb] at HBAD
   have HYY:=ι (HFY.out hb)
   have HYw:=ι fun w3 (hb3:Below V.heap.size V w3)=>a1m 8 (HYk.out w3 (HIL.out w3 hb3).1 (HIL.out w3 hb3).2.2.2 (HPK.out hb))
   clear hb
   gi_wp2_with (refine⟨trivial,?_⟩;gi_at_call 54;refine(a1p HBAD.out).mono ?_;rintro e w3 ⟨rfl,hb3⟩;have HB3:=ι hb3;obtain⟨fn,tmps,assign,body,hy,hR⟩:=HYw.out w3 hb3;have ey:=(HIL.out w3 hb3).2.1.cell;clear hb3)
   refine RoundIn.mono (F:=Fence.wide.inRound l2) hR ?_
   rintro e W4 (⟨rfl,hJ4,hT4⟩|⟨rfl,hJx4,hT4⟩)
   ·have HJ4:=ι hJ4
    have HT4:=ι hT4
    clear hy hR hJ4 hT4
    gi_wp2
    have h:=HIL.out _ HB3.out
    have h5:=HSZ.out
    exact⟨⟨by rw[HYY.out];exact HJ4.out,HT4.out.keep _ _ h.2.1 (fun hz=>by
      rcases HZW.out _ _ hz with hh|hh
      ·omega
      ·exact a0k (by decide) hh),h.2.2.1.turn HT4.out (fun b o hz=>H1.out b o hz) (fun b o hz=>H2.out b o hz),Nat.le_trans h.2.2.2 HT4.out.size⟩,(Turn.of_below HB3.out).trans HT4.out⟩
   ·have HJX4:=ι hJx4
    have HT4:=ι hT4
    clear hy hR hJx4 hT4
    gi_wp2
    exact⟨⟨rfl,by rw[HYY.out];exact HJX4.out⟩,(Turn.of_below HB3.out).trans (HT4.out.mono fun j o hz=>hz.imp (fun h=>by have:=HSZ.out;omega) id)⟩
 case done =>
  rintro D ys V hD rfl hI hK
  have HI2:=ι hI
  clear hI
  gi_wp2
  refine⟨by simp,.inl ⟨_,_,rfl,run_takeDeferred hK,?_⟩⟩
  refine⟨_,results_none rfl _ _ _,⟨_,rfl⟩,.inl ⟨_,rfl,?_⟩⟩
  have h:=HI2.out.1
  rw[HPD.out] at h
  exact HJ.out _ _ _ h (rng.Calm.putObj _ (by have:=HSZ.out;omega) hK rfl)
 case stop =>
  rintro D c pre V hD hp ⟨rfl,hx⟩ hK
  have HX:=ι hx
  clear hx
  gi_wp2
  refine⟨by simp,.inl ⟨_,_,rfl,run_takeDeferred hK,?_⟩⟩
  refine⟨_,results_none rfl _ _ _,⟨_,rfl⟩,.inr ⟨_,?_,HJX.out _ _ _ HX.out (rng.Calm.putObj _ (by have:=HSZ.out;omega) hK rfl)⟩⟩
  rw[← HPD.out]
  exact hp.filter _
set_option maxRecDepth 100000 in
set_option maxHeartbeats 4000000 in
theorem b7f(w0:World)(p:Option Addr)(ss:List (List Int))(hd:Dk w0 (.pointer p) ss)(lo:Nat)(V1:World)(bc br:Nat)(q:Option Addr)(n c:Nat)(rs:List Int)(hbc:Go.Boxed V1 bc 25 (.pointer p))(hbr:Go.Boxed V1 br 34 (.slice q n c))(hr:∀V,Keep w0 lo V1 V→Rd V 1 (.slice q n c) n (i64s rs))(hn:n≤1000)(hrs:∀z:Int,0≤z→z<16→rs.contains z=reachB ss z)(bd bb:Nat)(hbd:Go.Boxed V1 bd 25 (.pointer p))(hbb:Go.Boxed V1 bb 106 (.func (.func 55) #[] #[.pointer (some ⟨br,0,none⟩),.pointer (some ⟨bc,0,none⟩)]))(hlo:lo≤bd∧lo≤bb∧lo≤bc∧lo≤br)(hlw:w0.heap.size≤lo)(m:Nat→Obj→Prop)(w:World)(hk:Keep w0 lo V1 w)(h1:∀b o,m b o→w0.heap.size≤b)(h2:∀b o,m b o→b<lo∨softP o∨V1.heap.size≤b) :
  Seq Tryz.prog 80 #[.pointer (some ⟨bd,0,none⟩),.pointer (some ⟨bb,0,none⟩)] (fun k:Nat => #[.int .i64 (k:Int)]) softP m (fun ys=>ys=those (lostB ss) 24) (fun pre=>pre <+: those (lostB ss) 24) w:=by
 intro l J Jx W hW hZW hJ hJx hY h0
 have HJ:=ι hJ
 have HJX:=ι hJx
 have HY:=ι hY
 have H1:=ι h1
 have H2:=ι h2
 have HZW:=ι hZW
 have HD:=ι hd
 have HLW:=ι hlw
 have HBD:=ι fun V (h:Keep w0 lo V1 V)=>h.boxed hbd hlo.1 (by decide)
 have HBB:=ι fun V (h:Keep w0 lo V1 V)=>h.boxed hbb hlo.2.1 (by decide)
 have HBA:=ι fun(k:Nat) (hu:entB ss k=true) V (h:Keep w0 lo V1 V)=>b4e V p ss k bc br q n c rs (hd.later h.below) hu (h.boxed hbc hlo.2.2.1 (by decide)) (h.boxed hbr hlo.2.2.2 (by decide)) (hr V h) hn hrs
 clear hbc hbr hr hrs
 have hK0:Keep w0 lo V1 W:=hk.calm (B:=w0.heap.size) ⟨hW.os,hW.tape,hW.output,hW.size,fun k o hi ho=>(hW.block k (Array.getElem?_eq_some_iff.1 hi).1).trans hi⟩ (Nat.le_refl _)
 have hs0:=hK0.below.size
 have HV1:=ι hK0.size
 have HS0:=ι hs0
 have hb1:=a0a (a0a (Below.refl W.heap.size W) (.cells #[.func (.yield l) #[] #[]] 69)) (.cells #[.pointer p] 25)
 have hy1:=(Go.Boxed.new W 69 (.func (.yield l) #[] #[])).alloc (.cells #[.pointer p] 25)
 have hd1:=Go.Boxed.new (W.alloc (.cells #[.func (.yield l) #[] #[]] 69)) 25 (.pointer p)
 rw[World.size_alloc] at hd1
 have hsz:((W.alloc (.cells #[.func (.yield l) #[] #[]] 69)).alloc (.cells #[.pointer p] 25)).heap.size=W.heap.size+2:=by simp[World.size_alloc]
 have cd:(W.alloc (.cells #[.func (.yield l) #[] #[]] 69)).cell? ⟨bd,0,none⟩=some (.pointer p):=((HBD.out W hK0).alloc _).cell
 obtain⟨W2,hW2⟩:∃W2,(W.alloc (.cells #[.func (.yield l) #[] #[]] 69)).alloc (.cells #[.pointer p] 25)=W2:=⟨_,rfl⟩
 rw[hW2] at hb1 hy1 hd1 hsz
 have HK2:Hid (Keep w0 lo V1 W2):=ι (hK0.later hb1)
 have HY2:=ι hy1
 have HD2:=ι hd1
 have HSZ:=ι hsz
 have HJ2:Hid (J [] W2):=ι (hJ _ _ _ h0 (rng.Calm.of_below hb1))
 have HEU:=ι fun k h=>a9c (ss:=ss) k h
 have HPD:Hid ((those (entB ss) 24).filter (lostB ss)=those (lostB ss) 24):=ι (a3v (fun k h=>a9c k h) 24)
 generalize (lostB ss)=pp at *
 clear hJ hJx hY h1 h2 hbd hbb hlo hlw hk hW hZW hK0 hb1 hy1 hd1 hsz h0 hd hs0
 refine(callsIn_wide (n:=10)).1 (callsIn_of_wp_marks Tryz.func80 rfl trivial ?_ rfl)
 simp only[Tryz.ntmps80,List.size_toArray,List.length_cons,List.length_nil,Nat.reduceAdd,Nat.reduceSub,Array.replicate_succ,Array.replicate_zero,List.push_toArray,List.append_toArray,List.nil_append,List.cons_append]
 gi_wp2_with (refine⟨trivial,?_⟩;gi_at_call 22;refine(callsIn_wide.2 (a3a _ _)).mono ?_;rintro e w2 ⟨rfl,rfl⟩)
 try rw[hW2]
 clear hW2 cd
 have HWM:Hid (W.heap.size≤W2.heap.size):=ι (by have:=HSZ.out;omega)
 refine a2f (gf:=44) (lb := #[.pointer (some ⟨W.heap.size+1,0,none⟩)]) rfl (enters_of Tryz.func44 (by kernel_rfl) rfl)
  (a2z softP w0 (.pointer p) ss HD.out (W.heap.size+1) (fun b o=>b=W2.heap.size+1∨m b o) W2 HK2.out.below HD2.out (fun b o hb=>by
   have h1:=HSZ.out
   have h2:=HS0.out
   rcases hb with hb|hb
   ·omega
   ·exact H1.out b o hb) (fun v hb=>by
   have h1:=HSZ.out
   rcases hb with hb|hb
   ·omega
   ·rcases HZW.out _ _ hb with h|h
    ·omega
    ·exact a0k (by decide) h)) (fun b o h=>(HZW.out b o h).imp (fun h=>by have:=HSZ.out;omega) id) a0f (fun _=>rfl)
  (fun pre V=>J (pre.filter pp) V∧Go.Boxed V W.heap.size 69 (.func (.yield l) #[] #[])∧Keep w0 lo V1 V∧W.heap.size≤V.heap.size)
  (fun c pre V=>c = .ret∧Jx (pre.filter pp) V)
  (fun s A B h hc=>⟨HJ.out _ _ _ h.1 (hc.mono HWM.out),hc.boxed h.2.1,h.2.2.1.calm hc (by have:=HWM.out;have:=HS0.out;omega),Nat.le_trans h.2.2.2 hc.size⟩)
  (fun c s A B h hc=>⟨h.1,HJX.out _ _ _ h.2 (hc.mono HWM.out)⟩)
  ⟨HJ2.out,HY2.out,HK2.out,HWM.out⟩
  (fun pre k a' V=>(J (pre.filter pp) V∧Go.Boxed V W.heap.size 69 (.func (.yield l) #[] #[])∧Keep w0 lo V1 V∧W.heap.size≤V.heap.size)∧∃Bx,AtE V Bx (entAt ss (k:Int))∧a'={ tmps := #[.func (.yield l) #[] #[],.pointer (some ⟨bd,0,none⟩),.pointer (some ⟨bb,0,none⟩),.pointer (some ⟨W.heap.size,0,none⟩),.int .i64 (k:Int),.pointer (some ⟨Bx,0,none⟩),.pointer p,.func (.func 44) #[] #[.pointer (some ⟨W.heap.size+1,0,none⟩)],.int .i64 (k:Int),aggE (entAt ss (k:Int)),undef,undef,undef,undef,undef,undef,undef,undef,undef],defers:=[] })
  (fun s k a' A B h hc=>by
   obtain⟨h1,Bx,h2,h3⟩:=h
   exact⟨⟨HJ.out _ _ _ h1.1 (hc.mono HWM.out),hc.boxed h1.2.1,h1.2.2.1.calm hc (by have:=HWM.out;have:=HS0.out;omega),Nat.le_trans h1.2.2.2 hc.size⟩,Bx,hc.block _ _ h2 (Or.inr rfl),h3⟩)
  ?assign ?body ?done ?stop
 case assign =>
  rintro l2 pre k V hI hsz _
  generalize entAt ss (k:Int)=x
  obtain⟨u,pa,nm,tg⟩:=x
  have HI2:=ι hI
  clear hI
  gi_wp2
  have hb:=a0a (Below.refl V.heap.size V) (.cells #[.bool u,.int .i64 pa,.string nm,.int .i64 tg] 65)
  exact⟨⟨⟨HJ.out _ _ _ HI2.out.1 (rng.Calm.of_below hb),HI2.out.2.1.alloc _,HI2.out.2.2.1.later hb,Nat.le_trans HI2.out.2.2.2 hb.size⟩,V.heap.size,a1t V ⟨u,pa,nm,tg⟩,rfl⟩,Turn.of_below hb⟩
 case body =>
  rintro l2 pre k a' V ⟨hI,Bx,hX,rfl⟩ hsz hsp
  have huk:entB ss k=true:=by
   have:=hsp.subset (List.mem_append_right _ (List.mem_singleton.2 rfl))
   exact(those_mem.1 this).2
  have hk24:k<24:=by
   have:=hsp.subset (List.mem_append_right _ (List.mem_singleton.2 rfl))
   exact(those_mem.1 this).1
  have hpk:pp k=true→(pre.filter pp)++[k] <+: those pp 24:=fun hk=>by
   have h:=hsp.filter pp
   rw[HPD.out,List.filter_append] at h
   simpa [hk] using h
  have HPK:=ι hpk
  have HFY:Hid (pp k=true→(pre++[k]).filter pp=pre.filter pp++[k]):=ι fun hk=>by rw[List.filter_append];simp[hk]
  have HFN:Hid (pp k=false→(pre++[k]).filter pp=pre.filter pp):=ι fun hk=>by rw[List.filter_append];simp[hk]
  have HYk:=ι fun V' hj hs hp=>HY.out (pre.filter pp) k V' hj hs hp
  have HI2:=ι hI
  have HIL:=ι fun V' (hb:Below V.heap.size V V')=>(show J (pre.filter pp) V'∧Go.Boxed V' W.heap.size 69 (.func (.yield l) #[] #[])∧Keep w0 lo V1 V'∧W.heap.size≤V'.heap.size from⟨HJ.out _ _ _ hI.1 (rng.Calm.of_below hb),(rng.Calm.of_below (B:=0) hb).boxed hI.2.1,hI.2.2.1.later hb,Nat.le_trans hI.2.2.2 hb.size⟩)
  have HBAD:=ι (HBA.out k huk V hI.2.2.1)
  have cb:=(HBB.out V hI.2.2.1).cell
  have cy:=hI.2.1.cell
  have hbx:Bx<V.heap.size:=(Array.getElem?_eq_some_iff.1 hX).1
  clear hI hsp huk hpk
  generalize entAt ss (k:Int)=x at *
  obtain⟨u,pa,nm,tg⟩:=x
  have x0:V.cell? ⟨Bx,0,none⟩=some (.bool u):=hX.cell0
  have x1:V.cell? ⟨Bx,1,none⟩=some (.int .i64 pa):=hX.cell1
  have x2:V.cell? ⟨Bx,2,none⟩=some (.string nm):=hX.cell2
  have x3:V.cell? ⟨Bx,3,none⟩=some (.int .i64 tg):=hX.cell3
  clear hX
  cases hb:pp k with
  | false =>
   rw[hb] at HBAD
   have HN:=ι (HFN.out hb)
   clear hb HYk
   gi_wp2_with (refine⟨trivial,?_⟩;gi_at_call 55;refine(a1p HBAD.out).mono ?_;rintro e w3 ⟨rfl,hb3⟩;have HB3:=ι hb3;clear hb3)
   refine⟨fun _ h=>(by cases h),?_⟩
   gi_wp2
   have h:=HIL.out _ HB3.out
   exact⟨⟨by rw[HN.out];exact h.1,h.2⟩,Turn.of_below HB3.out⟩
  | true =>
   rw[hb] at HBAD
   have HYY:=ι (HFY.out hb)
   have HYw:=ι fun w3 (hb3:Below V.heap.size V w3)=>a1m 8 (HYk.out w3 (HIL.out w3 hb3).1 (HIL.out w3 hb3).2.2.2 (HPK.out hb))
   clear hb
   gi_wp2_with (refine⟨trivial,?_⟩;gi_at_call 55;refine(a1p HBAD.out).mono ?_;rintro e w3 ⟨rfl,hb3⟩;have HB3:=ι hb3;obtain⟨fn,tmps,assign,body,hy,hR⟩:=HYw.out w3 hb3;have ey:=(HIL.out w3 hb3).2.1.cell;clear hb3)
   refine RoundIn.mono (F:=Fence.wide.inRound l2) hR ?_
   rintro e W4 (⟨rfl,hJ4,hT4⟩|⟨rfl,hJx4,hT4⟩)
   ·have HJ4:=ι hJ4
    have HT4:=ι hT4
    clear hy hR hJ4 hT4
    gi_wp2
    have h:=HIL.out _ HB3.out
    have h5:=HSZ.out
    exact⟨⟨by rw[HYY.out];exact HJ4.out,HT4.out.keep _ _ h.2.1 (fun hz=>by
      rcases HZW.out _ _ hz with hh|hh
      ·omega
      ·exact a0k (by decide) hh),h.2.2.1.turn HT4.out (fun b o hz=>H1.out b o hz) (fun b o hz=>H2.out b o hz),Nat.le_trans h.2.2.2 HT4.out.size⟩,(Turn.of_below HB3.out).trans HT4.out⟩
   ·have HJX4:=ι hJx4
    have HT4:=ι hT4
    clear hy hR hJx4 hT4
    gi_wp2
    exact⟨⟨rfl,by rw[HYY.out];exact HJX4.out⟩,(Turn.of_below HB3.out).trans (HT4.out.mono fun j o hz=>hz.imp (fun h=>by have:=HSZ.out;omega) id)⟩
 case done =>
  rintro D ys V hD rfl hI hK
  have HI2:=ι hI
  clear hI
  gi_wp2
  refine⟨by simp,.inl ⟨_,_,rfl,run_takeDeferred hK,?_⟩⟩
  refine⟨_,results_none rfl _ _ _,⟨_,rfl⟩,.inl ⟨_,rfl,?_⟩⟩
  have h:=HI2.out.1
  rw[HPD.out] at h
  exact HJ.out _ _ _ h (rng.Calm.putObj _ (by have:=HSZ.out;omega) hK rfl)
 case stop =>
  rintro D c pre V hD hp ⟨rfl,hx⟩ hK
  have HX:=ι hx
  clear hx
  gi_wp2
  refine⟨by simp,.inl ⟨_,_,rfl,run_takeDeferred hK,?_⟩⟩
  refine⟨_,results_none rfl _ _ _,⟨_,rfl⟩,.inr ⟨_,?_,HJX.out _ _ _ HX.out (rng.Calm.putObj _ (by have:=HSZ.out;omega) hK rfl)⟩⟩
  rw[← HPD.out]
  exact hp.filter _
end lk
namespace lk
set_option maxRecDepth 100000
open Go.ChangeShapes Go.WideShapes Go.ChangeAt Go.RowKit
open rows
open sec
open ly
open rng
attribute [local go_sem] Oper.semAt_some
theorem b1a(p:Nat→Bool)(m:Nat):(those p m).Nodup:=List.nodup_range.filter _
theorem a6t{p:Nat→Bool}{k m:Nat}{pre:List Nat}(h:pre++[k] <+: those p m):pre=those p k:=by
 have hk:=those_mem.1 (h.subset (List.mem_append_right _ (List.mem_singleton.2 rfl)))
 have h2:those p k++[k] <+: those p m:=by rw[← a1w hk.2];exact a2v p (by omega)
 rcases Nat.lt_trichotomy pre.length (those p k).length with hl|hl|hl
 ·have h3:pre++[k] <+: those p k:=List.prefix_of_prefix_length_le h ((List.prefix_append _ _).trans h2) (by simp;omega)
  have:=those_mem.1 (h3.subset (List.mem_append_right _ (List.mem_singleton.2 rfl)))
  omega
 ·have h3:pre <+: those p k:=List.prefix_of_prefix_length_le ((List.prefix_append _ _).trans h) ((List.prefix_append _ _).trans h2) (by omega)
  exact h3.eq_of_length hl
 ·have h3:those p k++[k] <+: pre:=List.prefix_of_prefix_length_le h2 ((List.prefix_append _ _).trans h) (by simp;omega)
  have hm:=h3.subset (List.mem_append_right _ (List.mem_singleton.2 rfl))
  have hn:(pre++[k]).Nodup:=h.sublist.nodup (b1a p m)
  rw[List.nodup_append] at hn
  exact absurd rfl (hn.2.2 k hm k (List.mem_singleton.2 rfl))
theorem b7a{ss:List (List Int)}(r:Nat→Nat→Bool){k:Nat}(hu:entB ss k=true):lowB ss r k=(those (entB ss) k).any (r k):=by
 rw[lowB,show (entAt ss (k:Int)).used=true from hu,Bool.true_and,those,List.any_filter];rfl
theorem b1q{ss:List (List Int)}(r:Nat→Nat→Bool)(k:Nat)(h:lowB ss r k=true):entB ss k=true:=by
 rw[lowB,Bool.and_eq_true] at h;exact h.1
def entC(x:Ent):List Value:=[.bool x.used,.int .i64 x.parent,.string x.name,.int .i64 x.target]
def entsC(l:List Ent):List Value:=(l.map entC).flatten
theorem b2w(l:List Ent)(x:Ent):entsC (l++[x])=entsC l++entC x:=by simp[entsC]
theorem a0s:Elem 132 65 4 40 (.agg #[.bool false,.int .i64 0,.string ByteArray.empty,.int .i64 0]):=⟨Tryz.underlying132,by kernel_rfl,by decide,by decide,by decide⟩
theorem b6m:(Tryz.prog.info? 65).map (·.size)=some 4:=by kernel_rfl
theorem a5a{ops:Array Oper}{rest:List Oper}{o:Oper}{a:Go.Act}{w:World}{Q:Exit→Go.Act→World→Prop}(hgd:o.guard=none)(x:Operand)(ho:o.op = .load 65 x)
  (b off:Nat) (hx:a.eval x = .pointer (some ⟨b,off,none⟩)) (y:Ent) (hg:w.rangeAt b off (entC y))
  (h:wpList Tryz.prog ops Q rest (a.put o.dst (.agg #[.bool y.used,.int .i64 y.parent,.string y.name,.int .i64 y.target])) w):wpList Tryz.prog ops Q (o::rest) a w :=
 wpList_load_mid hgd 65 x ho b off hx (entC y) _ hg Tryz.underlying65 rfl (by rw[b6m];rfl) h
set_option maxHeartbeats 1600000 in
theorem b0a(x y:Ent)(w:World):Calls Tryz.prog 57 #[.agg #[.bool x.used,.int .i64 x.parent,.string x.name,.int .i64 x.target],.agg #[.bool y.used,.int .i64 y.parent,.string y.name,.int .i64 y.target]] w (Rt w (.bool ((x.parent == y.parent) && (x.name.toList == y.name.toList)))):=by
 obtain⟨u,pa,nm,tg⟩:=x
 obtain⟨u2,pa2,nm2,tg2⟩:=y
 simp only
 have B2:=ι (a0a (a0a (Below.refl w.heap.size w) (.cells #[.bool u,.int .i64 pa,.string nm,.int .i64 tg] 65)) (.cells #[.bool u2,.int .i64 pa2,.string nm2,.int .i64 tg2] 65))
 obtain⟨b1,hb1⟩:∃b,(pa == pa2)=b:=⟨_,rfl⟩
 rw[hb1]
 cases b1 <;>
  (
   go_enter Tryz.func57,Tryz.ntmps57
   go_wp2_with fail
   go_ret
   exact⟨rfl,B2.out⟩)
set_option maxHeartbeats 1600000 in
theorem b0g(x y:Ent)(w:World):Calls Tryz.prog 58 #[.agg #[.bool x.used,.int .i64 x.parent,.string x.name,.int .i64 x.target],.agg #[.bool y.used,.int .i64 y.parent,.string y.name,.int .i64 y.target]] w (Rt w (.bool (x.target == y.target))):=by
 obtain⟨u,pa,nm,tg⟩:=x
 obtain⟨u2,pa2,nm2,tg2⟩:=y
 simp only
 have B2:=ι (a0a (a0a (Below.refl w.heap.size w) (.cells #[.bool u,.int .i64 pa,.string nm,.int .i64 tg] 65)) (.cells #[.bool u2,.int .i64 pa2,.string nm2,.int .i64 tg2] 65))
 go_enter Tryz.func58,Tryz.ntmps58
 go_wp2_with fail
 go_ret
 exact⟨rfl,B2.out⟩
set_option maxHeartbeats 1600000 in
theorem crep11D(w:World)(ba Bx:Nat)(x y:Ent)(hba:Go.Boxed w ba 108 (.func (.func 57) #[] #[]))(hx:AtE w Bx x) :
  Calls Tryz.prog 83 #[.agg #[.bool y.used,.int .i64 y.parent,.string y.name,.int .i64 y.target],.pointer (some ⟨ba,0,none⟩),.pointer (some ⟨Bx,0,none⟩)] w (Rt w (.bool ((x.parent == y.parent) && (x.name.toList == y.name.toList)))):=by
 have HC:=ι fun w'=>b0a x y w'
 generalize ((x.parent == y.parent) && (x.name.toList == y.name.toList))=res at *
 obtain⟨u,pa,nm,tg⟩:=x
 obtain⟨u2,pa2,nm2,tg2⟩:=y
 simp only at HC ⊢
 have B1:=ι (a0a (Below.refl w.heap.size w) (.cells #[.bool u2,.int .i64 pa2,.string nm2,.int .i64 tg2] 65))
 have cb:=(hba.alloc (.cells #[.bool u2,.int .i64 pa2,.string nm2,.int .i64 tg2] 65)).cell
 have hx1:=hx.later (a0a (Below.refl w.heap.size w) (.cells #[.bool u2,.int .i64 pa2,.string nm2,.int .i64 tg2] 65))
 have x0:(w.alloc (.cells #[.bool u2,.int .i64 pa2,.string nm2,.int .i64 tg2] 65)).cell? ⟨Bx,0,none⟩=some (.bool u):=hx1.cell0
 have x1:(w.alloc (.cells #[.bool u2,.int .i64 pa2,.string nm2,.int .i64 tg2] 65)).cell? ⟨Bx,1,none⟩=some (.int .i64 pa):=hx1.cell1
 have x2:(w.alloc (.cells #[.bool u2,.int .i64 pa2,.string nm2,.int .i64 tg2] 65)).cell? ⟨Bx,2,none⟩=some (.string nm):=hx1.cell2
 have x3:(w.alloc (.cells #[.bool u2,.int .i64 pa2,.string nm2,.int .i64 tg2] 65)).cell? ⟨Bx,3,none⟩=some (.int .i64 tg):=hx1.cell3
 clear hx hx1 hba
 go_enter Tryz.func83,Tryz.ntmps83
 go_wp2_with (go_at_call 57;refine(HC.out _).mono ?_;rintro e w2 ⟨rfl,hb⟩;have B2:=ι (a0b B1.out hb);clear hb)
 go_ret
 exact⟨rfl,B2.out⟩
set_option maxRecDepth 100000 in
set_option maxHeartbeats 1600000 in
theorem cidxD(w:World)(ba Bx:Nat)(x:Ent)(L:List Ent)(p:Option Addr)(m c:Nat)(hba:Go.Boxed w ba 108 (.func (.func 57) #[] #[]))(hx:AtE w Bx x)(h:Rd w 4 (.slice p m c) m (entsC L))(hm:m≤1000) :
  Calls Tryz.prog 97 #[.slice p m c,.func (.func 83) #[] #[.pointer (some ⟨ba,0,none⟩),.pointer (some ⟨Bx,0,none⟩)]] w fun e w'=>(∃r:Int,e = .returned (.int .i64 r)∧decide (0≤r)=L.any (fun y=>(x.parent == y.parent) && (x.name.toList == y.name.toList)))∧Below w.heap.size w w':=by
 have HR:=ι h
 have hml:L.length=m:=dsk.Rd.count entC h (fun x hx=>rfl) (by decide)
 have HML:=ι hml
 have HCL:=ι fun w' (hb:Below w.heap.size w w') y=>crep11D w' ba Bx x y ((rng.Calm.of_below (B:=0) hb).boxed hba) (hx.later hb)
 have hm1:(m:Int)≤1000:=by omega
 obtain⟨pr,hpr⟩:∃pr:Ent→Bool,(fun y:Ent=>(x.parent == y.parent) && (x.name.toList == y.name.toList))=pr:=⟨_,rfl⟩
 have HPR:Hid (∀y:Ent,((x.parent == y.parent) && (x.name.toList == y.name.toList))=pr y):=ι fun y=>by rw[← hpr]
 rw[hpr]
 clear h hml hba hx hpr
 go_enter Tryz.func97,Tryz.ntmps97
 go_wp2
 go_loopw [8] (fun iv wr=>∃(j:Nat),j≤m∧iv = .int .i64 (j:Int)∧Hid ((L.take j).any pr=false)∧Below w.heap.size w wr) (fun iv _=>m-(intOf iv).toNat)
 case atStart=>exact⟨0,by omega,rfl,ι rfl,Below.refl _ _⟩
 case round =>
  obtain⟨j,hj,rfl,HA,hbr⟩:=hrel
  by_cases ha:j<m
  ·have ha1:(j:Int)<m:=by omega
   have hjl:j<L.length:=by rw[HML.out];exact ha
   obtain⟨b1,o1,rfl,hc1,hmm1,hh1,hl1,HR1⟩:=dsk.Rd.chunk entC HR.out (fun x hx=>rfl) (by decide) ha
   have HRG:=ι (Rd.rangeLater (HR1 j hjl) hh1 hbr)
   have HAN:Hid ((L.take (j+1)).any pr=pr L[j]):=ι (by rw[List.take_succ_eq_append_getElem hjl,List.any_append,HA.out];simp)
   have HAY:Hid (pr L[j]=true→L.any pr=true):=ι fun h=>List.any_eq_true.2 ⟨_,List.getElem_mem hjl,h⟩
   have HCM:=ι (HCL.out wr hbr L[j])
   rw[HPR.out] at HCM
   generalize L[j]=y at *
   obtain⟨yu,yp,yn,yt⟩:=y
   simp only at HCM
   clear HR1 hl1
   cases hq:pr ⟨yu,yp,yn,yt⟩
   all_goals (rw[hq] at HCM HAN HAY;clear hq)
   ·go_wp2_with (first|(refine a5a rfl (.tmp 14) rfl b1 (o1+j * 4) rfl ⟨yu,yp,yn,yt⟩ HRG.out ?_)|(go_at_call 83;refine HCM.out.mono ?_;rintro e w2 ⟨rfl,hb2⟩))
    go_roundw
    case rel=>exact⟨j+1,by omega,by go_num,HAN,a0b hbr hb2⟩
    case measure=>simp[intOf];omega
   ·go_wp2_with (first|(refine a5a rfl (.tmp 14) rfl b1 (o1+j * 4) rfl ⟨yu,yp,yn,yt⟩ HRG.out ?_)|(go_at_call 83;refine HCM.out.mono ?_;rintro e w2 ⟨rfl,hb2⟩))
    go_ret
    exact⟨⟨(j:Int),rfl,by rw[HAY.out trivial];simp⟩,a0b hbr hb2⟩
  ·obtain rfl:m=j:=by omega
   have HAE:Hid (L.any pr=false):=ι (by have h:=HA.out;rwa [List.take_of_length_le (by rw[HML.out];omega)] at h)
   go_wp2_with fail
   go_ret
   exact⟨⟨-1,rfl,by rw[HAE.out];rfl⟩,hbr⟩
theorem ccontD(w:World)(ba Bx:Nat)(x:Ent)(L:List Ent)(p:Option Addr)(m c:Nat)(hba:Go.Boxed w ba 108 (.func (.func 57) #[] #[]))(hx:AtE w Bx x)(h:Rd w 4 (.slice p m c) m (entsC L))(hm:m≤1000) :
  Calls Tryz.prog 82 #[.slice p m c,.func (.func 83) #[] #[.pointer (some ⟨ba,0,none⟩),.pointer (some ⟨Bx,0,none⟩)]] w (Rt w (.bool (L.any (fun y=>(x.parent == y.parent) && (x.name.toList == y.name.toList))))):=by
 have HI:=ι (cidxD w ba Bx x L p m c hba hx h hm)
 generalize L.any (fun y=>(x.parent == y.parent) && (x.name.toList == y.name.toList))=res at *
 clear hba hx h
 go_enter Tryz.func82,Tryz.ntmps82
 go_wp2_with (go_at_call 97;refine HI.out.mono ?_;rintro e w2 ⟨⟨r,rfl,hr⟩,hb2⟩;have HR:=ι hr;clear hr)
 all_goals go_ret
 exact⟨a0d HR.out,hb2⟩
set_option maxHeartbeats 1600000 in
theorem crep11L(w:World)(ba Bx:Nat)(x y:Ent)(hba:Go.Boxed w ba 108 (.func (.func 58) #[] #[]))(hx:AtE w Bx x) :
  Calls Tryz.prog 83 #[.agg #[.bool y.used,.int .i64 y.parent,.string y.name,.int .i64 y.target],.pointer (some ⟨ba,0,none⟩),.pointer (some ⟨Bx,0,none⟩)] w (Rt w (.bool (x.target == y.target))):=by
 have HC:=ι fun w'=>b0g x y w'
 generalize (x.target == y.target)=res at *
 obtain⟨u,pa,nm,tg⟩:=x
 obtain⟨u2,pa2,nm2,tg2⟩:=y
 simp only at HC ⊢
 have B1:=ι (a0a (Below.refl w.heap.size w) (.cells #[.bool u2,.int .i64 pa2,.string nm2,.int .i64 tg2] 65))
 have cb:=(hba.alloc (.cells #[.bool u2,.int .i64 pa2,.string nm2,.int .i64 tg2] 65)).cell
 have hx1:=hx.later (a0a (Below.refl w.heap.size w) (.cells #[.bool u2,.int .i64 pa2,.string nm2,.int .i64 tg2] 65))
 have x0:(w.alloc (.cells #[.bool u2,.int .i64 pa2,.string nm2,.int .i64 tg2] 65)).cell? ⟨Bx,0,none⟩=some (.bool u):=hx1.cell0
 have x1:(w.alloc (.cells #[.bool u2,.int .i64 pa2,.string nm2,.int .i64 tg2] 65)).cell? ⟨Bx,1,none⟩=some (.int .i64 pa):=hx1.cell1
 have x2:(w.alloc (.cells #[.bool u2,.int .i64 pa2,.string nm2,.int .i64 tg2] 65)).cell? ⟨Bx,2,none⟩=some (.string nm):=hx1.cell2
 have x3:(w.alloc (.cells #[.bool u2,.int .i64 pa2,.string nm2,.int .i64 tg2] 65)).cell? ⟨Bx,3,none⟩=some (.int .i64 tg):=hx1.cell3
 clear hx hx1 hba
 go_enter Tryz.func83,Tryz.ntmps83
 go_wp2_with (go_at_call 58;refine(HC.out _).mono ?_;rintro e w2 ⟨rfl,hb⟩;have B2:=ι (a0b B1.out hb);clear hb)
 go_ret
 exact⟨rfl,B2.out⟩
set_option maxRecDepth 100000 in
set_option maxHeartbeats 1600000 in
theorem cidxL(w:World)(ba Bx:Nat)(x:Ent)(L:List Ent)(p:Option Addr)(m c:Nat)(hba:Go.Boxed w ba 108 (.func (.func 58) #[] #[]))(hx:AtE w Bx x)(h:Rd w 4 (.slice p m c) m (entsC L))(hm:m≤1000) :
  Calls Tryz.prog 97 #[.slice p m c,.func (.func 83) #[] #[.pointer (some ⟨ba,0,none⟩),.pointer (some ⟨Bx,0,none⟩)]] w fun e w'=>(∃r:Int,e = .returned (.int .i64 r)∧decide (0≤r)=L.any (fun y=>x.target == y.target))∧Below w.heap.size w w':=by
 have HR:=ι h
 have hml:L.length=m:=dsk.Rd.count entC h (fun x hx=>rfl) (by decide)
 have HML:=ι hml
 have HCL:=ι fun w' (hb:Below w.heap.size w w') y=>crep11L w' ba Bx x y ((rng.Calm.of_below (B:=0) hb).boxed hba) (hx.later hb)
 have hm1:(m:Int)≤1000:=by omega
 obtain⟨pr,hpr⟩:∃pr:Ent→Bool,(fun y:Ent=>x.target == y.target)=pr:=⟨_,rfl⟩
 have HPR:Hid (∀y:Ent,(x.target == y.target)=pr y):=ι fun y=>by rw[← hpr]
 rw[hpr]
 clear h hml hba hx hpr
 go_enter Tryz.func97,Tryz.ntmps97
 go_wp2
 go_loopw [8] (fun iv wr=>∃(j:Nat),j≤m∧iv = .int .i64 (j:Int)∧Hid ((L.take j).any pr=false)∧Below w.heap.size w wr) (fun iv _=>m-(intOf iv).toNat)
 case atStart=>exact⟨0,by omega,rfl,ι rfl,Below.refl _ _⟩
 case round =>
  obtain⟨j,hj,rfl,HA,hbr⟩:=hrel
  by_cases ha:j<m
  ·have ha1:(j:Int)<m:=by omega
   have hjl:j<L.length:=by rw[HML.out];exact ha
   obtain⟨b1,o1,rfl,hc1,hmm1,hh1,hl1,HR1⟩:=dsk.Rd.chunk entC HR.out (fun x hx=>rfl) (by decide) ha
   have HRG:=ι (Rd.rangeLater (HR1 j hjl) hh1 hbr)
   have HAN:Hid ((L.take (j+1)).any pr=pr L[j]):=ι (by rw[List.take_succ_eq_append_getElem hjl,List.any_append,HA.out];simp)
   have HAY:Hid (pr L[j]=true→L.any pr=true):=ι fun h=>List.any_eq_true.2 ⟨_,List.getElem_mem hjl,h⟩
   have HCM:=ι (HCL.out wr hbr L[j])
   rw[HPR.out] at HCM
   generalize L[j]=y at *
   obtain⟨yu,yp,yn,yt⟩:=y
   simp only at HCM
   clear HR1 hl1
   cases hq:pr ⟨yu,yp,yn,yt⟩
   all_goals (rw[hq] at HCM HAN HAY;clear hq)
   ·go_wp2_with (first|(refine a5a rfl (.tmp 14) rfl b1 (o1+j * 4) rfl ⟨yu,yp,yn,yt⟩ HRG.out ?_)|(go_at_call 83;refine HCM.out.mono ?_;rintro e w2 ⟨rfl,hb2⟩))
    go_roundw
    case rel=>exact⟨j+1,by omega,by go_num,HAN,a0b hbr hb2⟩
    case measure=>simp[intOf];omega
   ·go_wp2_with (first|(refine a5a rfl (.tmp 14) rfl b1 (o1+j * 4) rfl ⟨yu,yp,yn,yt⟩ HRG.out ?_)|(go_at_call 83;refine HCM.out.mono ?_;rintro e w2 ⟨rfl,hb2⟩))
    go_ret
    exact⟨⟨(j:Int),rfl,by rw[HAY.out trivial];simp⟩,a0b hbr hb2⟩
  ·obtain rfl:m=j:=by omega
   have HAE:Hid (L.any pr=false):=ι (by have h:=HA.out;rwa [List.take_of_length_le (by rw[HML.out];omega)] at h)
   go_wp2_with fail
   go_ret
   exact⟨⟨-1,rfl,by rw[HAE.out];rfl⟩,hbr⟩
theorem ccontL(w:World)(ba Bx:Nat)(x:Ent)(L:List Ent)(p:Option Addr)(m c:Nat)(hba:Go.Boxed w ba 108 (.func (.func 58) #[] #[]))(hx:AtE w Bx x)(h:Rd w 4 (.slice p m c) m (entsC L))(hm:m≤1000) :
  Calls Tryz.prog 82 #[.slice p m c,.func (.func 83) #[] #[.pointer (some ⟨ba,0,none⟩),.pointer (some ⟨Bx,0,none⟩)]] w (Rt w (.bool (L.any (fun y=>x.target == y.target)))):=by
 have HI:=ι (cidxL w ba Bx x L p m c hba hx h hm)
 generalize L.any (fun y=>x.target == y.target)=res at *
 clear hba hx h
 go_enter Tryz.func82,Tryz.ntmps82
 go_wp2_with (go_at_call 97;refine HI.out.mono ?_;rintro e w2 ⟨⟨r,rfl,hr⟩,hb2⟩;have HR:=ι hr;clear hr)
 all_goals go_ret
 exact⟨a0d HR.out,hb2⟩
end lk
namespace lk
set_option maxRecDepth 100000
open Go.ChangeShapes Go.WideShapes Go.ChangeAt Go.RowKit
open rows
open sec
open dsk (a0i a0z a2p)
open ly
open rng
attribute [local go_sem] Oper.semAt_some
def softR(o:Obj):Prop:=softP o∨∃cs fr,o = .cells cs 65 fr
theorem a6p(o:Obj)(h:softR o):o.isCells=true:=by
 rcases h with h|⟨cs,fr,rfl⟩
 ·exact a0f o h
 ·rfl
def entsAt(ss:List (List Int))(l:List Nat):List Ent:=l.map fun k:Nat=>entAt ss (k:Int)
theorem a2l{B0 B:Nat}{w w':World}{e:TypeId}{sz n:Nat}{v:Value}{cs:List Value}(h:rows.Own w B e sz v n cs)(k:rng.Calm B0 w w'):rows.Own w' B e sz v n cs:=by
 refine⟨h.1,?_⟩
 rcases h.2 with h2|⟨g,cap,cur,hv,h3,h4,h5⟩
 ·exact Or.inl h2
 ·exact Or.inr ⟨g,cap,cur,hv,h3,k.block g _ h4 (Or.inr rfl),h5⟩
theorem b5o{B:Nat}{w w':World}{e:TypeId}{sz n:Nat}{v:Value}{cs:List Value}{m:Nat→Obj→Prop}(h:rows.Own w B e sz v n cs)(k:Turn m w w')(hm:∀g cur,v.ownBlock=some g→¬m g (.cells cur e (0,0))):rows.Own w' B e sz v n cs:=by
 refine⟨h.1,?_⟩
 rcases h.2 with h2|⟨g,cap,cur,hv,h3,h4,h5⟩
 ·exact Or.inl h2
 ·exact Or.inr ⟨g,cap,cur,hv,h3,k.keep g _ h4 (hm g _ (by rw[hv];rfl)),h5⟩
structure LowAt (B:Nat) (ss:List (List Int)) (pre:List Nat) (q:Option Addr) (n c:Nat) (W:World):Prop where
 box:Go.Boxed W B 132 (.slice q n c)
 own:rows.Own W 0 65 4 (.slice q n c) n (entsC (entsAt ss pre))
 len:n=pre.length
 low:∀k,(Value.slice q n c).ownBlock=some k→B+2≤k
theorem LowAt.calm{B B0:Nat}{ss:List (List Int)}{pre:List Nat}{q:Option Addr}{n c:Nat}{a b:World}(h:LowAt B ss pre q n c a)(k:rng.Calm B0 a b):LowAt B ss pre q n c b:=⟨k.boxed h.box,a2l h.own k,h.len,h.low⟩
theorem LowAt.turn{B:Nat}{ss:List (List Int)}{pre:List Nat}{q:Option Addr}{n c:Nat}{a b:World}{m:Nat→Obj→Prop}(h:LowAt B ss pre q n c a)(k:Turn m a b)(hm:∀g o,m g o→g<B∨softP o):LowAt B ss pre q n c b :=
 ⟨k.keep _ _ h.box fun hz=>by
  rcases hm _ _ hz with hh|hh
  ·omega
  ·exact a0k (by decide) hh,b5o h.own k fun g cur hg hz=>by
  rcases hm _ _ hz with hh|hh
  ·have:=h.low g hg;omega
  ·exact a0k (by decide) hh,h.len,h.low⟩
theorem a5j{w:World}{B:Nat}{e:TypeId}{sz n:Nat}{v:Value}{cs:List Value}(h:rows.Own w B e sz v n cs){k:Nat}(hk:v.ownBlock=some k):∃cur,w.heap[k]? = some (.cells cur e (0,0)):=by
 rcases h.2 with⟨rfl,_⟩|⟨g,cap,cur,rfl,h3,h4,_⟩
 ·simp[Value.ownBlock] at hk
 ·obtain rfl:g=k:=by simpa [Value.ownBlock] using hk
  exact⟨_,h4⟩
theorem a0m{Z:Nat→Prop}{W W':World}{B:Nat}{t:TypeId}{v:Value}(h:Go.Boxed W B t v)(ht:dsk.Touch Z W W')(hT:¬Z B):Go.Boxed W' B t v:=(ht.block B h.lt hT).trans h
theorem LowAt.touch{B:Nat}{ss:List (List Int)}{pre:List Nat}{q:Option Addr}{n c:Nat}{V V6:World}(h:LowAt B ss pre q n c V)(ht:dsk.Touch (fun g=>(Value.slice q n c).ownBlock=some g∨g=B) V V6) :
  (∀B',B'≤B→CalmS softP B' V V6)∧Turn (fun b o=>b=B∨(B+2≤b∧∃cs,o = .cells cs 65 (0,0))) V V6:=by
 refine⟨fun B' hB=>⟨ht.os,ht.tape,ht.output,ht.size,fun k o hi ho=>(ht.block k (Array.getElem?_eq_some_iff.1 hi).1 fun hz => ?_).trans hi⟩,Turn.of_touch' ht fun k o hko hk => ?_⟩
 ·rcases hz with hz|rfl
  ·obtain⟨cur,hc⟩:=a5j h.own hz
   rcases ho with ho|ho
   ·have:=h.low k hz;omega
   ·rw[hi] at hc;cases hc;exact a0k (by decide) ho
  ·rcases ho with ho|ho
   ·omega
   ·have hb:V.heap[k]? = some (.cells #[.slice q n c] 132 (0,0)):=h.box
    rw[hi] at hb;cases hb;exact a0k (by decide) ho
 ·rcases hk with hk|rfl
  ·obtain⟨cur,hc⟩:=a5j h.own hk
   rw[hko] at hc
   exact Or.inr ⟨h.low k hk,cur,Option.some.inj hc⟩
  ·exact Or.inl rfl
theorem b1z{B:Nat}{ss:List (List Int)}{pre:List Nat}{q:Option Addr}{n c:Nat}{V wa:World}{o:Obj}{pa:Option Addr}{ca k:Nat}(h:LowAt B ss pre q n c V)(hB:B+2≤V.heap.size)
  (hoa:rows.Own wa 0 65 4 (.slice pa (n+1) ca) (n+1) (entsC (entsAt ss pre)++entC (entAt ss (k:Int)))) (hta:dsk.Touch (fun g=>(Value.slice q n c).ownBlock=some g) (V.alloc o) wa)
  (hla:∀g,(Value.slice pa (n+1) ca).ownBlock=some g→(Value.slice q n c).ownBlock=some g∨((V.alloc o).heap.size≤g∧g<wa.heap.size)) :
  LowAt B ss (pre++[k]) pa (n+1) ca (wa.setCell ⟨B,0,none⟩ (.slice pa (n+1) ca))∧dsk.Touch (fun g=>(Value.slice q n c).ownBlock=some g∨g=B) V (wa.setCell ⟨B,0,none⟩ (.slice pa (n+1) ca)):=by
 have hlow:∀g,(Value.slice pa (n+1) ca).ownBlock=some g→B+2≤g:=fun g hg=>by
  rcases hla g hg with h1|h1
  ·exact h.low g h1
  ·have:=h1.1
   rw[World.size_alloc] at this
   omega
 have hb8:=a0m (h.box.alloc o) hta (fun e=>by have:=h.low _ e;omega)
 refine⟨⟨hb8.set _,?_,by rw[List.length_append,← h.len];rfl,hlow⟩,dsk.Touch.setCell (S:=fun g=>(Value.slice q n c).ownBlock=some g∨g=B) (((dsk.Touch.alloc (dsk.Touch.refl _ V) _).trans hta).mono (fun i hi=>Or.inl hi)) ⟨B,0,none⟩ (Or.inr rfl) _⟩
 rw[entsAt,List.map_append,List.map_singleton,b2w]
 exact dsk.a0y (S:=fun g=>B+2≤g) hoa hlow (dsk.Keeps.set (fun g hg=>by omega) _)
set_option maxRecDepth 100000 in
set_option maxHeartbeats 4000000 in
theorem dbl_seq(w0:World)(p:Option Addr)(ss:List (List Int))(hd:Dk w0 (.pointer p) ss)(lo:Nat)(V1:World)(bd ba:Nat)(hbd:Go.Boxed V1 bd 25 (.pointer p))(hba:Go.Boxed V1 ba 108 (.func (.func 57) #[] #[]))(hlo:lo≤bd∧lo≤ba)(hlw:w0.heap.size≤lo)(m:Nat→Obj→Prop)(w:World)(hk:Keep w0 lo V1 w)(h1:∀b o,m b o→w0.heap.size≤b)(h2:∀b o,m b o→b<lo∨softP o∨V1.heap.size≤b) :
  SeqS Tryz.prog 81 #[.pointer (some ⟨bd,0,none⟩),.pointer (some ⟨ba,0,none⟩)] (fun k:Nat => #[.int .i64 (k:Int)]) softP m (fun ys=>ys=those (lowB ss (sameD ss)) 24) (fun pre=>pre <+: those (lowB ss (sameD ss)) 24) w:=by
 intro l J Jx W hW hZW hJ hJx hY h0
 have HJ:=ι hJ
 have HJX:=ι hJx
 have HY:=ι hY
 have H1:=ι h1
 have H2:=ι h2
 have HZW:=ι hZW
 have HD:=ι hd
 have HBD:=ι fun V (h:Keep w0 lo V1 V)=>h.boxed hbd hlo.1 (by decide)
 have HBA:=ι fun V (h:Keep w0 lo V1 V)=>h.boxed hba hlo.2 (by decide)
 have hK0:Keep w0 lo V1 W:=hk.calm (B:=w0.heap.size) ⟨hW.os,hW.tape,hW.output,hW.size,fun k o hi ho=>(hW.block k (Array.getElem?_eq_some_iff.1 hi).1).trans hi⟩ (Nat.le_refl _)
 have hs0:=hK0.below.size
 have HV1:=ι hK0.size
 have HS0:=ι hs0
 have hb1:=a0a (a0a (a0a (Below.refl W.heap.size W) (.cells #[.func (.yield l) #[] #[]] 69)) (.cells #[.slice none 0 0] 132)) (.cells #[.pointer p] 25)
 have hy1:=((Go.Boxed.new W 69 (.func (.yield l) #[] #[])).alloc (.cells #[.slice none 0 0] 132)).alloc (.cells #[.pointer p] 25)
 have hl1:=(Go.Boxed.new (W.alloc (.cells #[.func (.yield l) #[] #[]] 69)) 132 (.slice none 0 0)).alloc (.cells #[.pointer p] 25)
 have hd1:=Go.Boxed.new ((W.alloc (.cells #[.func (.yield l) #[] #[]] 69)).alloc (.cells #[.slice none 0 0] 132)) 25 (.pointer p)
 simp only[World.size_alloc] at hd1 hl1
 have hsz:(((W.alloc (.cells #[.func (.yield l) #[] #[]] 69)).alloc (.cells #[.slice none 0 0] 132)).alloc (.cells #[.pointer p] 25)).heap.size=W.heap.size+3:=by simp[World.size_alloc]
 have cd:((W.alloc (.cells #[.func (.yield l) #[] #[]] 69)).alloc (.cells #[.slice none 0 0] 132)).cell? ⟨bd,0,none⟩=some (.pointer p):=(((HBD.out W hK0).alloc _).alloc _).cell
 obtain⟨W2,hW2⟩:∃W2,((W.alloc (.cells #[.func (.yield l) #[] #[]] 69)).alloc (.cells #[.slice none 0 0] 132)).alloc (.cells #[.pointer p] 25)=W2:=⟨_,rfl⟩
 rw[hW2] at hb1 hy1 hl1 hd1 hsz
 have HK2:Hid (Keep w0 lo V1 W2):=ι (hK0.later hb1)
 have HY2:=ι hy1
 have HD2:=ι hd1
 have HL2:Hid (LowAt (W.heap.size+1) ss [] none 0 0 W2):=ι ⟨hl1,a3m _ _ _ _,rfl,fun k hk=>by simp[Value.ownBlock] at hk⟩
 have HSZ:=ι hsz
 have HJ2:Hid (J [] W2):=ι (hJ _ _ _ h0 (CalmS.of_below hb1))
 have HLA:=ι fun k hu=>b7a (ss:=ss) (sameD ss) (k:=k) hu
 have HPD:Hid ((those (entB ss) 24).filter (lowB ss (sameD ss))=those (lowB ss (sameD ss)) 24):=ι (a3v (fun k h=>b1q (sameD ss) k h) 24)
 generalize (lowB ss (sameD ss))=pp at *
 clear hJ hJx hY h1 h2 hbd hba hlo hlw hk hW hZW hK0 hb1 hy1 hl1 hd1 hsz h0 hd hs0
 refine(callsIn_wide (n:=10)).1 (callsIn_of_wp_marks Tryz.func81 rfl trivial ?_ rfl)
 simp only[Tryz.ntmps81,List.size_toArray,List.length_cons,List.length_nil,Nat.reduceAdd,Nat.reduceSub,Array.replicate_succ,Array.replicate_zero,List.push_toArray,List.append_toArray,List.nil_append,List.cons_append]
 gi_wp2_with (refine⟨trivial,?_⟩;gi_at_call 22;refine(callsIn_wide.2 (a3a _ _)).mono ?_;rintro e w2 ⟨rfl,rfl⟩)
 try rw[hW2]
 clear hW2 cd
 have HWM:Hid (W.heap.size≤W2.heap.size):=ι (by have:=HSZ.out;omega)
 refine a2f (gf:=44) (lb := #[.pointer (some ⟨W.heap.size+1+1,0,none⟩)]) rfl (enters_of Tryz.func44 (by kernel_rfl) rfl)
  (m:=fun b o=>m b o∨(b=W.heap.size+1∨(W2.heap.size≤b∧∃cs,o = .cells cs 65 (0,0))))
  (a2z softR w0 (.pointer p) ss HD.out (W.heap.size+1+1) (fun b o=>b=W2.heap.size+1∨(m b o∨(b=W.heap.size+1∨(W2.heap.size≤b∧∃cs,o = .cells cs 65 (0,0))))) W2 HK2.out.below HD2.out (fun b o hb=>by
   have h1:=HSZ.out
   have h2:=HS0.out
   rcases hb with hb|hb|hb|hb
   ·omega
   ·exact H1.out b o hb
   ·omega
   ·omega) (fun v hb=>by
   have h1:=HSZ.out
   rcases hb with hb|hb|hb|hb
   ·omega
   ·rcases HZW.out _ _ hb with h|h
    ·omega
    ·exact a0k (by decide) h
   ·omega
   ·omega)) (fun b o h=>by
   have h1:=HSZ.out
   rcases h with h|h|⟨_,cs,rfl⟩
   ·rcases HZW.out b o h with h|h
    ·exact Or.inl (by omega)
    ·exact Or.inr (Or.inl h)
   ·exact Or.inl (by omega)
   ·exact Or.inr (Or.inr ⟨cs,_,rfl⟩)) a6p (fun _=>rfl)
  (fun pre V=>J (pre.filter pp) V∧Go.Boxed V W.heap.size 69 (.func (.yield l) #[] #[])∧Keep w0 lo V1 V∧W.heap.size≤V.heap.size∧∃q n c,LowAt (W.heap.size+1) ss pre q n c V)
  (fun c pre V=>c = .ret∧Jx (pre.filter pp) V)
  (fun s A B h hc=>⟨HJ.out _ _ _ h.1 (CalmS.of a0f (hc.mono HWM.out)),hc.boxed h.2.1,h.2.2.1.calm hc (by have:=HWM.out;have:=HS0.out;omega),Nat.le_trans h.2.2.2.1 hc.size,by obtain⟨q,n,c,hl⟩:=h.2.2.2.2;exact⟨q,n,c,hl.calm hc⟩⟩)
  (fun c s A B h hc=>⟨h.1,HJX.out _ _ _ h.2 (CalmS.of a0f (hc.mono HWM.out))⟩)
  ⟨HJ2.out,HY2.out,HK2.out,HWM.out,none,0,0,HL2.out⟩
  (fun pre k a' V=>(J (pre.filter pp) V∧Go.Boxed V W.heap.size 69 (.func (.yield l) #[] #[])∧Keep w0 lo V1 V∧W.heap.size≤V.heap.size∧∃q n c,LowAt (W.heap.size+1) ss pre q n c V)∧∃Bx,(AtE V Bx (entAt ss (k:Int))∧W2.heap.size≤Bx)∧a'={ tmps := #[.func (.yield l) #[] #[],.pointer (some ⟨bd,0,none⟩),.pointer (some ⟨ba,0,none⟩),.pointer (some ⟨W.heap.size,0,none⟩),.pointer (some ⟨W.heap.size+1,0,none⟩),.int .i64 (k:Int),.pointer (some ⟨Bx,0,none⟩),undef,.pointer p,.func (.func 44) #[] #[.pointer (some ⟨W.heap.size+1+1,0,none⟩)],.int .i64 (k:Int),aggE (entAt ss (k:Int)),undef,undef,undef,undef,undef,undef,undef,undef,undef,undef,undef,undef,undef,undef],defers:=[] })
  (fun s k a' A B h hc=>by
   obtain⟨h1,Bx,h2,h3⟩:=h
   exact⟨⟨HJ.out _ _ _ h1.1 (CalmS.of a0f (hc.mono HWM.out)),hc.boxed h1.2.1,h1.2.2.1.calm hc (by have:=HWM.out;have:=HS0.out;omega),Nat.le_trans h1.2.2.2.1 hc.size,by obtain⟨q,n,c,hl⟩:=h1.2.2.2.2;exact⟨q,n,c,hl.calm hc⟩⟩,Bx,⟨hc.block _ _ h2.1 (Or.inr rfl),h2.2⟩,h3⟩)
  ?assign ?body ?done ?stop
 case assign =>
  rintro l2 pre k V hI hsz _
  generalize entAt ss (k:Int)=x
  obtain⟨u,pa,nm,tg⟩:=x
  have HI2:=ι hI
  clear hI
  gi_wp2
  have hb:=a0a (Below.refl V.heap.size V) (.cells #[.bool u,.int .i64 pa,.string nm,.int .i64 tg] 65)
  exact⟨⟨⟨HJ.out _ _ _ HI2.out.1 (CalmS.of_below hb),HI2.out.2.1.alloc _,HI2.out.2.2.1.later hb,Nat.le_trans HI2.out.2.2.2.1 hb.size,by obtain⟨q,n,c,hl⟩:=HI2.out.2.2.2.2;exact⟨q,n,c,hl.calm (B0:=0) (rng.Calm.of_below hb)⟩⟩,V.heap.size,⟨a1t V ⟨u,pa,nm,tg⟩,hsz⟩,rfl⟩,Turn.of_below hb⟩
 case body =>
  rintro l2 pre k a' V ⟨hI,Bx,⟨hX,hXl⟩,rfl⟩ hsz hsp
  have huk:entB ss k=true:=by
   have:=hsp.subset (List.mem_append_right _ (List.mem_singleton.2 rfl))
   exact(those_mem.1 this).2
  have hk24:k<24:=by
   have:=hsp.subset (List.mem_append_right _ (List.mem_singleton.2 rfl))
   exact(those_mem.1 this).1
  have hpe:pre=those (entB ss) k:=a6t hsp
  have hpk:pp k=true→(pre.filter pp)++[k] <+: those pp 24:=fun hk=>by
   have h:=hsp.filter pp
   rw[HPD.out,List.filter_append] at h
   simpa [hk] using h
  have HPK:=ι hpk
  have HFY:Hid (pp k=true→(pre++[k]).filter pp=pre.filter pp++[k]):=ι fun hk=>by rw[List.filter_append];simp[hk]
  have HFN:Hid (pp k=false→(pre++[k]).filter pp=pre.filter pp):=ι fun hk=>by rw[List.filter_append];simp[hk]
  have HYk:=ι fun V' hj hs hp=>HY.out (pre.filter pp) k V' hj hs hp
  obtain⟨q,n,c,hL⟩:=hI.2.2.2.2
  have hpl:pre.length≤24:=by rw[hpe];exact Nat.le_trans (a3s _ _) (by omega)
  have HAN:Hid ((entsAt ss pre).any (fun y=>((entAt ss (k:Int)).parent == y.parent) && ((entAt ss (k:Int)).name.toList == y.name.toList))=pp k):=ι (by
   rw[HLA.out k huk,← hpe,entsAt,List.any_map]
   congr 1
   funext j
   show _=sameD ss k j
   rw[b2r]
   rw[Function.comp,BEq.comm (a:=(entAt ss (k:Int)).parent),BEq.comm (a:=(entAt ss (k:Int)).name.toList)])
  have HCT:=ι (ccontD V ba Bx (entAt ss (k:Int)) (entsAt ss pre) q n c (HBA.out V hI.2.2.1) hX hL.own.rd (by rw[hL.len];omega))
  have HNL:Hid (n≤24):=ι (by rw[hL.len];exact hpl)
  have HI2:=ι hI
  have HL:=ι hL
  have HIL:=ι fun V' (hb:Below V.heap.size V V')=>(show J (pre.filter pp) V'∧Go.Boxed V' W.heap.size 69 (.func (.yield l) #[] #[])∧Keep w0 lo V1 V'∧W.heap.size≤V'.heap.size∧LowAt (W.heap.size+1) ss pre q n c V' from⟨HJ.out _ _ _ hI.1 (CalmS.of_below hb),(rng.Calm.of_below (B:=0) hb).boxed hI.2.1,hI.2.2.1.later hb,Nat.le_trans hI.2.2.2.1 hb.size,hL.calm (rng.Calm.of_below (B:=0) hb)⟩)
  have HEX:Hid (∀x,entAt ss (k:Int)=x→∀(V6 V7:World) (o:Obj) (q':Option Addr) (n' c':Nat) (pa':Option Addr) (ca:Nat),LowAt (W.heap.size+1) ss pre q' n' c' V6→W.heap.size+1+2≤V6.heap.size→rows.Own V7 0 65 4 (.slice pa' (n'+1) ca) (n'+1) (entsC (entsAt ss pre)++entC x)→dsk.Touch (fun g=>(Value.slice q' n' c').ownBlock=some g) (V6.alloc o) V7→(∀g,(Value.slice pa' (n'+1) ca).ownBlock=some g→(Value.slice q' n' c').ownBlock=some g∨((V6.alloc o).heap.size≤g∧g<V7.heap.size))→LowAt (W.heap.size+1) ss (pre++[k]) pa' (n'+1) ca (V7.setCell ⟨W.heap.size+1,0,none⟩ (.slice pa' (n'+1) ca))∧dsk.Touch (fun g=>(Value.slice q' n' c').ownBlock=some g∨g=W.heap.size+1) V6 (V7.setCell ⟨W.heap.size+1,0,none⟩ (.slice pa' (n'+1) ca))):=ι fun x hx V6 V7 o q' n' c' pa' ca h1 h2 h3 h4 h5=>by subst hx;exact b1z h1 h2 h3 h4 h5
  have HEX3:Hid (∀x,entAt ss (k:Int)=x→∀(Lp:List Nat) (V6 V7:World) (o:Obj) (q':Option Addr) (n' c':Nat) (pa':Option Addr) (ca:Nat),(J Lp V6∧Go.Boxed V6 W.heap.size 69 (.func (.yield l) #[] #[])∧Keep w0 lo V1 V6∧W.heap.size≤V6.heap.size∧LowAt (W.heap.size+1) ss pre q' n' c' V6)→V.heap.size≤V6.heap.size→rows.Own V7 0 65 4 (.slice pa' (n'+1) ca) (n'+1) (entsC (entsAt ss pre)++entC x)→dsk.Touch (fun g=>(Value.slice q' n' c').ownBlock=some g) (V6.alloc o) V7→(∀g,(Value.slice pa' (n'+1) ca).ownBlock=some g→(Value.slice q' n' c').ownBlock=some g∨((V6.alloc o).heap.size≤g∧g<V7.heap.size)) →
    (J Lp (V7.setCell ⟨W.heap.size+1,0,none⟩ (.slice pa' (n'+1) ca))∧Go.Boxed (V7.setCell ⟨W.heap.size+1,0,none⟩ (.slice pa' (n'+1) ca)) W.heap.size 69 (.func (.yield l) #[] #[])∧Keep w0 lo V1 (V7.setCell ⟨W.heap.size+1,0,none⟩ (.slice pa' (n'+1) ca))∧W.heap.size≤(V7.setCell ⟨W.heap.size+1,0,none⟩ (.slice pa' (n'+1) ca)).heap.size∧∃q n c,LowAt (W.heap.size+1) ss (pre++[k]) q n c (V7.setCell ⟨W.heap.size+1,0,none⟩ (.slice pa' (n'+1) ca)))∧Turn (fun b o=>m b o∨(b=W.heap.size+1∨(W2.heap.size≤b∧∃cs,o = .cells cs 65 (0,0)))) V6 (V7.setCell ⟨W.heap.size+1,0,none⟩ (.slice pa' (n'+1) ca))):=ι fun x hx Lp V6 V7 o q' n' c' pa' ca h1 h2 h3 h4 h5=>by
   have hz:=HSZ.out
   have h0:=HS0.out
   have h01:=HV1.out
   obtain⟨hl4,ht4⟩:=HEX.out x hx V6 V7 o q' n' c' pa' ca h1.2.2.2.2 (by omega) h3 h4 h5
   obtain⟨hc5,ht5⟩:=h1.2.2.2.2.touch ht4
   refine⟨⟨HJ.out _ _ _ h1.1 (hc5 _ (by omega)),ht5.keep _ _ h1.2.1 (fun hz=>by omega),h1.2.2.1.turn ht5 (fun b o hz=>by omega) (fun b o hz=>Or.inr (Or.inr (by omega))),Nat.le_trans h1.2.2.2.1 ht5.size,_,_,_,hl4⟩,ht5.mono fun b o hb=>Or.inr (hb.imp id fun h=>⟨by omega,h.2⟩)⟩
  have cl:=hL.box.cell
  have cy:=hI.2.1.cell
  have hbx:Bx<V.heap.size:=(Array.getElem?_eq_some_iff.1 hX).1
  rw[HAN.out] at HCT
  have HX:=ι hX
  clear hI hsp huk hpk hpe hL hpl
  obtain⟨x,hx⟩:∃x,entAt ss (k:Int)=x:=⟨_,rfl⟩
  have HEX2:=ι (HEX3.out x hx)
  rw[hx] at HX hX ⊢
  clear hx HEX HEX3 HAN
  obtain⟨u,pa,nm,tg⟩:=x
  have x0:V.cell? ⟨Bx,0,none⟩=some (.bool u):=hX.cell0
  have x1:V.cell? ⟨Bx,1,none⟩=some (.int .i64 pa):=hX.cell1
  have x2:V.cell? ⟨Bx,2,none⟩=some (.string nm):=hX.cell2
  have x3:V.cell? ⟨Bx,3,none⟩=some (.int .i64 tg):=hX.cell3
  clear hX
  cases hb:pp k with
  | false =>
   rw[hb] at HCT
   have HN:=ι (HFN.out hb)
   clear hb HYk
   gi_wp2_with (first|(refine⟨trivial,?_⟩;gi_at_call 82;refine(a1p HCT.out).mono ?_;rintro e w3 ⟨rfl,hb3⟩;have HB3:=ι hb3;have cl3:w3.cell? ⟨W.heap.size+1,0,none⟩=some (.slice q n c):=((rng.Calm.of_below (B:=0) hb3).boxed HL.out.box).cell;have e0:=(hb3.cell (p:=⟨Bx,0,none⟩) hbx).trans x0;have e1:=(hb3.cell (p:=⟨Bx,1,none⟩) hbx).trans x1;have e2:=(hb3.cell (p:=⟨Bx,2,none⟩) hbx).trans x2;have e3:=(hb3.cell (p:=⟨Bx,3,none⟩) hbx).trans x3;clear hb3)|(refine a1l rfl ?_;refine a0i a0s (by decide) rfl (.tmp 23) rfl (entC ⟨u,pa,nm,tg⟩) rfl rfl ?_;refine a0u ?_)|(gi_at_builtin;refine a1l rfl ?_;refine a2p a0s rfl (.tmp 22) (.tmp 24) rfl _ n _ rfl (((HIL.out w3 HB3.out).2.2.2.2).own.alloc _) _ 1 (entC ⟨u,pa,nm,tg⟩) rfl (a0z _ _ _ _ rfl) (fun v hv=>by simp[entC] at hv;rcases hv with rfl|rfl|rfl|rfl<;>rfl) (by have:=HNL.out;omega) ?_;intro pa' ca wa hoa hta hla;have hB8:=a0m (((HIL.out w3 HB3.out).2.2.2.2).box.alloc (.cells (entC ⟨u,pa,nm,tg⟩).toArray 65)) hta (fun e=>by have:=HL.out.low _ e;omega);have c8a:=hB8.cell;have f8a:=hB8.frozen;have HOA:=ι hoa;have HTA:=ι hta;have HLA2:=ι hla;clear hoa hta hla hB8;refine a0u ?_))
   refine⟨fun _ h=>(by cases h),?_⟩
   gi_wp2_with (first|(refine a1l rfl ?_;refine a0i a0s (by decide) rfl (.tmp 23) rfl (entC ⟨u,pa,nm,tg⟩) rfl rfl ?_;refine a0u ?_)|(gi_at_builtin;refine a1l rfl ?_;refine a2p a0s rfl (.tmp 22) (.tmp 24) rfl _ n _ rfl (((HIL.out w3 HB3.out).2.2.2.2).own.alloc _) _ 1 (entC ⟨u,pa,nm,tg⟩) rfl (a0z _ _ _ _ rfl) (fun v hv=>by simp[entC] at hv;rcases hv with rfl|rfl|rfl|rfl<;>rfl) (by have:=HNL.out;omega) ?_;intro pa' ca wa hoa hta hla;have hB8:=a0m (((HIL.out w3 HB3.out).2.2.2.2).box.alloc (.cells (entC ⟨u,pa,nm,tg⟩).toArray 65)) hta (fun e=>by have:=HL.out.low _ e;omega);have c8a:=hB8.cell;have f8a:=hB8.frozen;have HOA:=ι hoa;have HTA:=ι hta;have HLA2:=ι hla;clear hoa hta hla hB8;refine a0u ?_))
   have h3:=HIL.out _ HB3.out
   obtain⟨r1,r2⟩:=HEX2.out _ _ _ _ _ _ _ _ _ h3 HB3.out.size HOA.out HTA.out HLA2.out
   exact⟨⟨by rw[HN.out];exact r1.1,r1.2⟩,(Turn.of_below HB3.out).trans r2⟩
  | true =>
   rw[hb] at HCT
   have HYY:=ι (HFY.out hb)
   have HYw:=ι fun w3 (hb3:Below V.heap.size V w3)=>a1m 8 (HYk.out w3 (HIL.out w3 hb3).1 (HIL.out w3 hb3).2.2.2.1 (HPK.out hb))
   clear hb
   gi_wp2_with (first|(refine⟨trivial,?_⟩;gi_at_call 82;refine(a1p HCT.out).mono ?_;rintro e w3 ⟨rfl,hb3⟩;have HB3:=ι hb3;have cl3:w3.cell? ⟨W.heap.size+1,0,none⟩=some (.slice q n c):=((rng.Calm.of_below (B:=0) hb3).boxed HL.out.box).cell;have e0:=(hb3.cell (p:=⟨Bx,0,none⟩) hbx).trans x0;have e1:=(hb3.cell (p:=⟨Bx,1,none⟩) hbx).trans x1;have e2:=(hb3.cell (p:=⟨Bx,2,none⟩) hbx).trans x2;have e3:=(hb3.cell (p:=⟨Bx,3,none⟩) hbx).trans x3;have HYQ:=HYw.out w3 hb3;obtain⟨fn,tmps,assign,body,hy,hR⟩:=HYQ;have ey:=(HIL.out w3 hb3).2.1.cell;clear hb3)|(refine a1l rfl ?_;refine a0i a0s (by decide) rfl (.tmp 23) rfl (entC ⟨u,pa,nm,tg⟩) rfl rfl ?_;refine a0u ?_)|(gi_at_builtin;refine a1l rfl ?_;refine a2p a0s rfl (.tmp 22) (.tmp 24) rfl _ n _ rfl (((HIL.out w3 HB3.out).2.2.2.2).own.alloc _) _ 1 (entC ⟨u,pa,nm,tg⟩) rfl (a0z _ _ _ _ rfl) (fun v hv=>by simp[entC] at hv;rcases hv with rfl|rfl|rfl|rfl<;>rfl) (by have:=HNL.out;omega) ?_;intro pa' ca wa hoa hta hla;have hB8:=a0m (((HIL.out w3 HB3.out).2.2.2.2).box.alloc (.cells (entC ⟨u,pa,nm,tg⟩).toArray 65)) hta (fun e=>by have:=HL.out.low _ e;omega);have c8a:=hB8.cell;have f8a:=hB8.frozen;have HOA:=ι hoa;have HTA:=ι hta;have HLA2:=ι hla;clear hoa hta hla hB8;refine a0u ?_))
   refine RoundIn.mono (F:=Fence.wide.inRound l2) hR ?_
   rintro e W4 (⟨rfl,hJ4,hT4⟩|⟨rfl,hJx4,hT4⟩)
   ·have HJ4:=ι hJ4
    have HT4:=ι hT4
    have hX4:AtE W4 Bx ⟨u,pa,nm,tg⟩:=hT4.keep _ _ (HX.out.later HB3.out) (fun hz=>by
     have:=HSZ.out
     rcases HZW.out _ _ hz with hh|hh
     ·omega
     ·exact a0k (by decide) hh)
    have h3:=HIL.out _ HB3.out
    have HL4:Hid (LowAt (W.heap.size+1) ss pre q n c W4):=ι (h3.2.2.2.2.turn hT4 fun g o hz=>(HZW.out g o hz).imp (fun h=>by omega) id)
    have H34:Hid (J (pre.filter pp++[k]) W4∧Go.Boxed W4 W.heap.size 69 (.func (.yield l) #[] #[])∧Keep w0 lo V1 W4∧W.heap.size≤W4.heap.size∧LowAt (W.heap.size+1) ss pre q n c W4):=ι ⟨hJ4,hT4.keep _ _ h3.2.1 (fun hz=>by
      rcases HZW.out _ _ hz with hh|hh
      ·omega
      ·exact a0k (by decide) hh),h3.2.2.1.turn hT4 (fun b o hz=>H1.out b o hz) (fun b o hz=>H2.out b o hz),Nat.le_trans h3.2.2.2.1 hT4.size,HL4.out⟩
    have x0:W4.cell? ⟨Bx,0,none⟩=some (.bool u):=hX4.cell0
    have x1:W4.cell? ⟨Bx,1,none⟩=some (.int .i64 pa):=hX4.cell1
    have x2:W4.cell? ⟨Bx,2,none⟩=some (.string nm):=hX4.cell2
    have x3:W4.cell? ⟨Bx,3,none⟩=some (.int .i64 tg):=hX4.cell3
    have cl4:W4.cell? ⟨W.heap.size+1,0,none⟩=some (.slice q n c):=HL4.out.box.cell
    clear hy hR hJ4 hT4 hX4 h3
    gi_wp2_with (first|(refine a1l rfl ?_;refine a0i a0s (by decide) rfl (.tmp 23) rfl (entC ⟨u,pa,nm,tg⟩) rfl rfl ?_;refine a0u ?_)|(gi_at_builtin;refine a1l rfl ?_;refine a2p a0s rfl (.tmp 22) (.tmp 24) rfl _ n _ rfl (HL4.out.own.alloc _) _ 1 (entC ⟨u,pa,nm,tg⟩) rfl (a0z _ _ _ _ rfl) (fun v hv=>by simp[entC] at hv;rcases hv with rfl|rfl|rfl|rfl<;>rfl) (by have:=HNL.out;omega) ?_;intro pa' ca wa hoa hta hla;have hB8:=a0m (HL4.out.box.alloc (.cells (entC ⟨u,pa,nm,tg⟩).toArray 65)) hta (fun e=>by have:=HL4.out.low _ e;omega);have c8a:=hB8.cell;have f8a:=hB8.frozen;have HOA:=ι hoa;have HTA:=ι hta;have HLA2:=ι hla;clear hoa hta hla hB8;refine a0u ?_))
    obtain⟨r1,r2⟩:=HEX2.out _ _ _ _ _ _ _ _ _ H34.out (Nat.le_trans HB3.out.size HT4.out.size) HOA.out HTA.out HLA2.out
    exact⟨⟨by rw[HYY.out];exact r1.1,r1.2⟩,((Turn.of_below HB3.out).trans (HT4.out.mono fun j o hz=>Or.inl hz)).trans r2⟩
   ·have HJX4:=ι hJx4
    have HT4:=ι hT4
    clear hy hR hJx4 hT4
    gi_wp2
    exact⟨⟨rfl,by rw[HYY.out];exact HJX4.out⟩,(Turn.of_below HB3.out).trans (HT4.out.mono fun j o hz=>hz.imp (fun h=>by have:=HSZ.out;omega) Or.inl)⟩
 case done =>
  rintro D ys V hD rfl hI hK
  have HI2:=ι hI
  clear hI
  gi_wp2
  refine⟨by simp,.inl ⟨_,_,rfl,run_takeDeferred hK,?_⟩⟩
  refine⟨_,results_none rfl _ _ _,⟨_,rfl⟩,.inl ⟨_,rfl,?_⟩⟩
  have h:=HI2.out.1
  rw[HPD.out] at h
  exact HJ.out _ _ _ h (CalmS.of a0f (rng.Calm.putObj _ (by have:=HSZ.out;omega) hK rfl))
 case stop =>
  rintro D c pre V hD hp ⟨rfl,hx⟩ hK
  have HX:=ι hx
  clear hx
  gi_wp2
  refine⟨by simp,.inl ⟨_,_,rfl,run_takeDeferred hK,?_⟩⟩
  refine⟨_,results_none rfl _ _ _,⟨_,rfl⟩,.inr ⟨_,?_,HJX.out _ _ _ HX.out (CalmS.of a0f (rng.Calm.putObj _ (by have:=HSZ.out;omega) hK rfl))⟩⟩
  rw[← HPD.out]
  exact hp.filter _
end lk
namespace lk
set_option maxRecDepth 100000
open Go.ChangeShapes Go.WideShapes Go.ChangeAt Go.RowKit
open rows
open sec
open dsk (a0i a0z a2p)
open ly
open rng
attribute [local go_sem] Oper.semAt_some
set_option maxRecDepth 100000 in
set_option maxHeartbeats 4000000 in
theorem lnk_seq(w0:World)(p:Option Addr)(ss:List (List Int))(hd:Dk w0 (.pointer p) ss)(lo:Nat)(V1:World)(bd ba:Nat)(hbd:Go.Boxed V1 bd 25 (.pointer p))(hba:Go.Boxed V1 ba 108 (.func (.func 58) #[] #[]))(hlo:lo≤bd∧lo≤ba)(hlw:w0.heap.size≤lo)(m:Nat→Obj→Prop)(w:World)(hk:Keep w0 lo V1 w)(h1:∀b o,m b o→w0.heap.size≤b)(h2:∀b o,m b o→b<lo∨softP o∨V1.heap.size≤b) :
  SeqS Tryz.prog 81 #[.pointer (some ⟨bd,0,none⟩),.pointer (some ⟨ba,0,none⟩)] (fun k:Nat => #[.int .i64 (k:Int)]) softP m (fun ys=>ys=those (lowB ss (sameL ss)) 24) (fun pre=>pre <+: those (lowB ss (sameL ss)) 24) w:=by
 intro l J Jx W hW hZW hJ hJx hY h0
 have HJ:=ι hJ
 have HJX:=ι hJx
 have HY:=ι hY
 have H1:=ι h1
 have H2:=ι h2
 have HZW:=ι hZW
 have HD:=ι hd
 have HBD:=ι fun V (h:Keep w0 lo V1 V)=>h.boxed hbd hlo.1 (by decide)
 have HBA:=ι fun V (h:Keep w0 lo V1 V)=>h.boxed hba hlo.2 (by decide)
 have hK0:Keep w0 lo V1 W:=hk.calm (B:=w0.heap.size) ⟨hW.os,hW.tape,hW.output,hW.size,fun k o hi ho=>(hW.block k (Array.getElem?_eq_some_iff.1 hi).1).trans hi⟩ (Nat.le_refl _)
 have hs0:=hK0.below.size
 have HV1:=ι hK0.size
 have HS0:=ι hs0
 have hb1:=a0a (a0a (a0a (Below.refl W.heap.size W) (.cells #[.func (.yield l) #[] #[]] 69)) (.cells #[.slice none 0 0] 132)) (.cells #[.pointer p] 25)
 have hy1:=((Go.Boxed.new W 69 (.func (.yield l) #[] #[])).alloc (.cells #[.slice none 0 0] 132)).alloc (.cells #[.pointer p] 25)
 have hl1:=(Go.Boxed.new (W.alloc (.cells #[.func (.yield l) #[] #[]] 69)) 132 (.slice none 0 0)).alloc (.cells #[.pointer p] 25)
 have hd1:=Go.Boxed.new ((W.alloc (.cells #[.func (.yield l) #[] #[]] 69)).alloc (.cells #[.slice none 0 0] 132)) 25 (.pointer p)
 simp only[World.size_alloc] at hd1 hl1
 have hsz:(((W.alloc (.cells #[.func (.yield l) #[] #[]] 69)).alloc (.cells #[.slice none 0 0] 132)).alloc (.cells #[.pointer p] 25)).heap.size=W.heap.size+3:=by simp[World.size_alloc]
 have cd:((W.alloc (.cells #[.func (.yield l) #[] #[]] 69)).alloc (.cells #[.slice none 0 0] 132)).cell? ⟨bd,0,none⟩=some (.pointer p):=(((HBD.out W hK0).alloc _).alloc _).cell
 obtain⟨W2,hW2⟩:∃W2,((W.alloc (.cells #[.func (.yield l) #[] #[]] 69)).alloc (.cells #[.slice none 0 0] 132)).alloc (.cells #[.pointer p] 25)=W2:=⟨_,rfl⟩
 rw[hW2] at hb1 hy1 hl1 hd1 hsz
 have HK2:Hid (Keep w0 lo V1 W2):=ι (hK0.later hb1)
 have HY2:=ι hy1
 have HD2:=ι hd1
 have HL2:Hid (LowAt (W.heap.size+1) ss [] none 0 0 W2):=ι ⟨hl1,a3m _ _ _ _,rfl,fun k hk=>by simp[Value.ownBlock] at hk⟩
 have HSZ:=ι hsz
 have HJ2:Hid (J [] W2):=ι (hJ _ _ _ h0 (CalmS.of_below hb1))
 have HLA:=ι fun k hu=>b7a (ss:=ss) (sameL ss) (k:=k) hu
 have HPD:Hid ((those (entB ss) 24).filter (lowB ss (sameL ss))=those (lowB ss (sameL ss)) 24):=ι (a3v (fun k h=>b1q (sameL ss) k h) 24)
 generalize (lowB ss (sameL ss))=pp at *
 clear hJ hJx hY h1 h2 hbd hba hlo hlw hk hW hZW hK0 hb1 hy1 hl1 hd1 hsz h0 hd hs0
 refine(callsIn_wide (n:=10)).1 (callsIn_of_wp_marks Tryz.func81 rfl trivial ?_ rfl)
 simp only[Tryz.ntmps81,List.size_toArray,List.length_cons,List.length_nil,Nat.reduceAdd,Nat.reduceSub,Array.replicate_succ,Array.replicate_zero,List.push_toArray,List.append_toArray,List.nil_append,List.cons_append]
 gi_wp2_with (refine⟨trivial,?_⟩;gi_at_call 22;refine(callsIn_wide.2 (a3a _ _)).mono ?_;rintro e w2 ⟨rfl,rfl⟩)
 try rw[hW2]
 clear hW2 cd
 have HWM:Hid (W.heap.size≤W2.heap.size):=ι (by have:=HSZ.out;omega)
 refine a2f (gf:=44) (lb := #[.pointer (some ⟨W.heap.size+1+1,0,none⟩)]) rfl (enters_of Tryz.func44 (by kernel_rfl) rfl)
  (m:=fun b o=>m b o∨(b=W.heap.size+1∨(W2.heap.size≤b∧∃cs,o = .cells cs 65 (0,0))))
  (a2z softR w0 (.pointer p) ss HD.out (W.heap.size+1+1) (fun b o=>b=W2.heap.size+1∨(m b o∨(b=W.heap.size+1∨(W2.heap.size≤b∧∃cs,o = .cells cs 65 (0,0))))) W2 HK2.out.below HD2.out (fun b o hb=>by
   have h1:=HSZ.out
   have h2:=HS0.out
   rcases hb with hb|hb|hb|hb
   ·omega
   ·exact H1.out b o hb
   ·omega
   ·omega) (fun v hb=>by
   have h1:=HSZ.out
   rcases hb with hb|hb|hb|hb
   ·omega
   ·rcases HZW.out _ _ hb with h|h
    ·omega
    ·exact a0k (by decide) h
   ·omega
   ·omega)) (fun b o h=>by
   have h1:=HSZ.out
   rcases h with h|h|⟨_,cs,rfl⟩
   ·rcases HZW.out b o h with h|h
    ·exact Or.inl (by omega)
    ·exact Or.inr (Or.inl h)
   ·exact Or.inl (by omega)
   ·exact Or.inr (Or.inr ⟨cs,_,rfl⟩)) a6p (fun _=>rfl)
  (fun pre V=>J (pre.filter pp) V∧Go.Boxed V W.heap.size 69 (.func (.yield l) #[] #[])∧Keep w0 lo V1 V∧W.heap.size≤V.heap.size∧∃q n c,LowAt (W.heap.size+1) ss pre q n c V)
  (fun c pre V=>c = .ret∧Jx (pre.filter pp) V)
  (fun s A B h hc=>⟨HJ.out _ _ _ h.1 (CalmS.of a0f (hc.mono HWM.out)),hc.boxed h.2.1,h.2.2.1.calm hc (by have:=HWM.out;have:=HS0.out;omega),Nat.le_trans h.2.2.2.1 hc.size,by obtain⟨q,n,c,hl⟩:=h.2.2.2.2;exact⟨q,n,c,hl.calm hc⟩⟩)
  (fun c s A B h hc=>⟨h.1,HJX.out _ _ _ h.2 (CalmS.of a0f (hc.mono HWM.out))⟩)
  ⟨HJ2.out,HY2.out,HK2.out,HWM.out,none,0,0,HL2.out⟩
  (fun pre k a' V=>(J (pre.filter pp) V∧Go.Boxed V W.heap.size 69 (.func (.yield l) #[] #[])∧Keep w0 lo V1 V∧W.heap.size≤V.heap.size∧∃q n c,LowAt (W.heap.size+1) ss pre q n c V)∧∃Bx,(AtE V Bx (entAt ss (k:Int))∧W2.heap.size≤Bx)∧a'={ tmps := #[.func (.yield l) #[] #[],.pointer (some ⟨bd,0,none⟩),.pointer (some ⟨ba,0,none⟩),.pointer (some ⟨W.heap.size,0,none⟩),.pointer (some ⟨W.heap.size+1,0,none⟩),.int .i64 (k:Int),.pointer (some ⟨Bx,0,none⟩),undef,.pointer p,.func (.func 44) #[] #[.pointer (some ⟨W.heap.size+1+1,0,none⟩)],.int .i64 (k:Int),aggE (entAt ss (k:Int)),undef,undef,undef,undef,undef,undef,undef,undef,undef,undef,undef,undef,undef,undef],defers:=[] })
  (fun s k a' A B h hc=>by
   obtain⟨h1,Bx,h2,h3⟩:=h
   exact⟨⟨HJ.out _ _ _ h1.1 (CalmS.of a0f (hc.mono HWM.out)),hc.boxed h1.2.1,h1.2.2.1.calm hc (by have:=HWM.out;have:=HS0.out;omega),Nat.le_trans h1.2.2.2.1 hc.size,by obtain⟨q,n,c,hl⟩:=h1.2.2.2.2;exact⟨q,n,c,hl.calm hc⟩⟩,Bx,⟨hc.block _ _ h2.1 (Or.inr rfl),h2.2⟩,h3⟩)
  ?assign ?body ?done ?stop
 case assign =>
  rintro l2 pre k V hI hsz _
  generalize entAt ss (k:Int)=x
  obtain⟨u,pa,nm,tg⟩:=x
  have HI2:=ι hI
  clear hI
  gi_wp2
  have hb:=a0a (Below.refl V.heap.size V) (.cells #[.bool u,.int .i64 pa,.string nm,.int .i64 tg] 65)
  exact⟨⟨⟨HJ.out _ _ _ HI2.out.1 (CalmS.of_below hb),HI2.out.2.1.alloc _,HI2.out.2.2.1.later hb,Nat.le_trans HI2.out.2.2.2.1 hb.size,by obtain⟨q,n,c,hl⟩:=HI2.out.2.2.2.2;exact⟨q,n,c,hl.calm (B0:=0) (rng.Calm.of_below hb)⟩⟩,V.heap.size,⟨a1t V ⟨u,pa,nm,tg⟩,hsz⟩,rfl⟩,Turn.of_below hb⟩
 case body =>
  rintro l2 pre k a' V ⟨hI,Bx,⟨hX,hXl⟩,rfl⟩ hsz hsp
  have huk:entB ss k=true:=by
   have:=hsp.subset (List.mem_append_right _ (List.mem_singleton.2 rfl))
   exact(those_mem.1 this).2
  have hk24:k<24:=by
   have:=hsp.subset (List.mem_append_right _ (List.mem_singleton.2 rfl))
   exact(those_mem.1 this).1
  have hpe:pre=those (entB ss) k:=a6t hsp
  have hpk:pp k=true→(pre.filter pp)++[k] <+: those pp 24:=fun hk=>by
   have h:=hsp.filter pp
   rw[HPD.out,List.filter_append] at h
   simpa [hk] using h
  have HPK:=ι hpk
  have HFY:Hid (pp k=true→(pre++[k]).filter pp=pre.filter pp++[k]):=ι fun hk=>by rw[List.filter_append];simp[hk]
  have HFN:Hid (pp k=false→(pre++[k]).filter pp=pre.filter pp):=ι fun hk=>by rw[List.filter_append];simp[hk]
  have HYk:=ι fun V' hj hs hp=>HY.out (pre.filter pp) k V' hj hs hp
  obtain⟨q,n,c,hL⟩:=hI.2.2.2.2
  have hpl:pre.length≤24:=by rw[hpe];exact Nat.le_trans (a3s _ _) (by omega)
  have HAN:Hid ((entsAt ss pre).any (fun y=>(entAt ss (k:Int)).target == y.target)=pp k):=ι (by
   rw[HLA.out k huk,← hpe,entsAt,List.any_map]
   congr 1
   funext j
   show _=sameL ss k j
   rw[b1x]
   rw[Function.comp,BEq.comm (a:=(entAt ss (k:Int)).target)])
  have HCT:=ι (ccontL V ba Bx (entAt ss (k:Int)) (entsAt ss pre) q n c (HBA.out V hI.2.2.1) hX hL.own.rd (by rw[hL.len];omega))
  have HNL:Hid (n≤24):=ι (by rw[hL.len];exact hpl)
  have HI2:=ι hI
  have HL:=ι hL
  have HIL:=ι fun V' (hb:Below V.heap.size V V')=>(show J (pre.filter pp) V'∧Go.Boxed V' W.heap.size 69 (.func (.yield l) #[] #[])∧Keep w0 lo V1 V'∧W.heap.size≤V'.heap.size∧LowAt (W.heap.size+1) ss pre q n c V' from⟨HJ.out _ _ _ hI.1 (CalmS.of_below hb),(rng.Calm.of_below (B:=0) hb).boxed hI.2.1,hI.2.2.1.later hb,Nat.le_trans hI.2.2.2.1 hb.size,hL.calm (rng.Calm.of_below (B:=0) hb)⟩)
  have HEX:Hid (∀x,entAt ss (k:Int)=x→∀(V6 V7:World) (o:Obj) (q':Option Addr) (n' c':Nat) (pa':Option Addr) (ca:Nat),LowAt (W.heap.size+1) ss pre q' n' c' V6→W.heap.size+1+2≤V6.heap.size→rows.Own V7 0 65 4 (.slice pa' (n'+1) ca) (n'+1) (entsC (entsAt ss pre)++entC x)→dsk.Touch (fun g=>(Value.slice q' n' c').ownBlock=some g) (V6.alloc o) V7→(∀g,(Value.slice pa' (n'+1) ca).ownBlock=some g→(Value.slice q' n' c').ownBlock=some g∨((V6.alloc o).heap.size≤g∧g<V7.heap.size))→LowAt (W.heap.size+1) ss (pre++[k]) pa' (n'+1) ca (V7.setCell ⟨W.heap.size+1,0,none⟩ (.slice pa' (n'+1) ca))∧dsk.Touch (fun g=>(Value.slice q' n' c').ownBlock=some g∨g=W.heap.size+1) V6 (V7.setCell ⟨W.heap.size+1,0,none⟩ (.slice pa' (n'+1) ca))):=ι fun x hx V6 V7 o q' n' c' pa' ca h1 h2 h3 h4 h5=>by subst hx;exact b1z h1 h2 h3 h4 h5
  have HEX3:Hid (∀x,entAt ss (k:Int)=x→∀(Lp:List Nat) (V6 V7:World) (o:Obj) (q':Option Addr) (n' c':Nat) (pa':Option Addr) (ca:Nat),(J Lp V6∧Go.Boxed V6 W.heap.size 69 (.func (.yield l) #[] #[])∧Keep w0 lo V1 V6∧W.heap.size≤V6.heap.size∧LowAt (W.heap.size+1) ss pre q' n' c' V6)→V.heap.size≤V6.heap.size→rows.Own V7 0 65 4 (.slice pa' (n'+1) ca) (n'+1) (entsC (entsAt ss pre)++entC x)→dsk.Touch (fun g=>(Value.slice q' n' c').ownBlock=some g) (V6.alloc o) V7→(∀g,(Value.slice pa' (n'+1) ca).ownBlock=some g→(Value.slice q' n' c').ownBlock=some g∨((V6.alloc o).heap.size≤g∧g<V7.heap.size)) →
    (J Lp (V7.setCell ⟨W.heap.size+1,0,none⟩ (.slice pa' (n'+1) ca))∧Go.Boxed (V7.setCell ⟨W.heap.size+1,0,none⟩ (.slice pa' (n'+1) ca)) W.heap.size 69 (.func (.yield l) #[] #[])∧Keep w0 lo V1 (V7.setCell ⟨W.heap.size+1,0,none⟩ (.slice pa' (n'+1) ca))∧W.heap.size≤(V7.setCell ⟨W.heap.size+1,0,none⟩ (.slice pa' (n'+1) ca)).heap.size∧∃q n c,LowAt (W.heap.size+1) ss (pre++[k]) q n c (V7.setCell ⟨W.heap.size+1,0,none⟩ (.slice pa' (n'+1) ca)))∧Turn (fun b o=>m b o∨(b=W.heap.size+1∨(W2.heap.size≤b∧∃cs,o = .cells cs 65 (0,0)))) V6 (V7.setCell ⟨W.heap.size+1,0,none⟩ (.slice pa' (n'+1) ca))):=ι fun x hx Lp V6 V7 o q' n' c' pa' ca h1 h2 h3 h4 h5=>by
   have hz:=HSZ.out
   have h0:=HS0.out
   have h01:=HV1.out
   obtain⟨hl4,ht4⟩:=HEX.out x hx V6 V7 o q' n' c' pa' ca h1.2.2.2.2 (by omega) h3 h4 h5
   obtain⟨hc5,ht5⟩:=h1.2.2.2.2.touch ht4
   refine⟨⟨HJ.out _ _ _ h1.1 (hc5 _ (by omega)),ht5.keep _ _ h1.2.1 (fun hz=>by omega),h1.2.2.1.turn ht5 (fun b o hz=>by omega) (fun b o hz=>Or.inr (Or.inr (by omega))),Nat.le_trans h1.2.2.2.1 ht5.size,_,_,_,hl4⟩,ht5.mono fun b o hb=>Or.inr (hb.imp id fun h=>⟨by omega,h.2⟩)⟩
  have cl:=hL.box.cell
  have cy:=hI.2.1.cell
  have hbx:Bx<V.heap.size:=(Array.getElem?_eq_some_iff.1 hX).1
  rw[HAN.out] at HCT
  have HX:=ι hX
  clear hI hsp huk hpk hpe hL hpl
  obtain⟨x,hx⟩:∃x,entAt ss (k:Int)=x:=⟨_,rfl⟩
  have HEX2:=ι (HEX3.out x hx)
  rw[hx] at HX hX ⊢
  clear hx HEX HEX3 HAN
  obtain⟨u,pa,nm,tg⟩:=x
  have x0:V.cell? ⟨Bx,0,none⟩=some (.bool u):=hX.cell0
  have x1:V.cell? ⟨Bx,1,none⟩=some (.int .i64 pa):=hX.cell1
  have x2:V.cell? ⟨Bx,2,none⟩=some (.string nm):=hX.cell2
  have x3:V.cell? ⟨Bx,3,none⟩=some (.int .i64 tg):=hX.cell3
  clear hX
  cases hb:pp k with
  | false =>
   rw[hb] at HCT
   have HN:=ι (HFN.out hb)
   clear hb HYk
   gi_wp2_with (first|(refine⟨trivial,?_⟩;gi_at_call 82;refine(a1p HCT.out).mono ?_;rintro e w3 ⟨rfl,hb3⟩;have HB3:=ι hb3;have cl3:w3.cell? ⟨W.heap.size+1,0,none⟩=some (.slice q n c):=((rng.Calm.of_below (B:=0) hb3).boxed HL.out.box).cell;have e0:=(hb3.cell (p:=⟨Bx,0,none⟩) hbx).trans x0;have e1:=(hb3.cell (p:=⟨Bx,1,none⟩) hbx).trans x1;have e2:=(hb3.cell (p:=⟨Bx,2,none⟩) hbx).trans x2;have e3:=(hb3.cell (p:=⟨Bx,3,none⟩) hbx).trans x3;clear hb3)|(refine a1l rfl ?_;refine a0i a0s (by decide) rfl (.tmp 23) rfl (entC ⟨u,pa,nm,tg⟩) rfl rfl ?_;refine a0u ?_)|(gi_at_builtin;refine a1l rfl ?_;refine a2p a0s rfl (.tmp 22) (.tmp 24) rfl _ n _ rfl (((HIL.out w3 HB3.out).2.2.2.2).own.alloc _) _ 1 (entC ⟨u,pa,nm,tg⟩) rfl (a0z _ _ _ _ rfl) (fun v hv=>by simp[entC] at hv;rcases hv with rfl|rfl|rfl|rfl<;>rfl) (by have:=HNL.out;omega) ?_;intro pa' ca wa hoa hta hla;have hB8:=a0m (((HIL.out w3 HB3.out).2.2.2.2).box.alloc (.cells (entC ⟨u,pa,nm,tg⟩).toArray 65)) hta (fun e=>by have:=HL.out.low _ e;omega);have c8a:=hB8.cell;have f8a:=hB8.frozen;have HOA:=ι hoa;have HTA:=ι hta;have HLA2:=ι hla;clear hoa hta hla hB8;refine a0u ?_))
   refine⟨fun _ h=>(by cases h),?_⟩
   gi_wp2_with (first|(refine a1l rfl ?_;refine a0i a0s (by decide) rfl (.tmp 23) rfl (entC ⟨u,pa,nm,tg⟩) rfl rfl ?_;refine a0u ?_)|(gi_at_builtin;refine a1l rfl ?_;refine a2p a0s rfl (.tmp 22) (.tmp 24) rfl _ n _ rfl (((HIL.out w3 HB3.out).2.2.2.2).own.alloc _) _ 1 (entC ⟨u,pa,nm,tg⟩) rfl (a0z _ _ _ _ rfl) (fun v hv=>by simp[entC] at hv;rcases hv with rfl|rfl|rfl|rfl<;>rfl) (by have:=HNL.out;omega) ?_;intro pa' ca wa hoa hta hla;have hB8:=a0m (((HIL.out w3 HB3.out).2.2.2.2).box.alloc (.cells (entC ⟨u,pa,nm,tg⟩).toArray 65)) hta (fun e=>by have:=HL.out.low _ e;omega);have c8a:=hB8.cell;have f8a:=hB8.frozen;have HOA:=ι hoa;have HTA:=ι hta;have HLA2:=ι hla;clear hoa hta hla hB8;refine a0u ?_))
   have h3:=HIL.out _ HB3.out
   obtain⟨r1,r2⟩:=HEX2.out _ _ _ _ _ _ _ _ _ h3 HB3.out.size HOA.out HTA.out HLA2.out
   exact⟨⟨by rw[HN.out];exact r1.1,r1.2⟩,(Turn.of_below HB3.out).trans r2⟩
  | true =>
   rw[hb] at HCT
   have HYY:=ι (HFY.out hb)
   have HYw:=ι fun w3 (hb3:Below V.heap.size V w3)=>a1m 8 (HYk.out w3 (HIL.out w3 hb3).1 (HIL.out w3 hb3).2.2.2.1 (HPK.out hb))
   clear hb
   gi_wp2_with (first|(refine⟨trivial,?_⟩;gi_at_call 82;refine(a1p HCT.out).mono ?_;rintro e w3 ⟨rfl,hb3⟩;have HB3:=ι hb3;have cl3:w3.cell? ⟨W.heap.size+1,0,none⟩=some (.slice q n c):=((rng.Calm.of_below (B:=0) hb3).boxed HL.out.box).cell;have e0:=(hb3.cell (p:=⟨Bx,0,none⟩) hbx).trans x0;have e1:=(hb3.cell (p:=⟨Bx,1,none⟩) hbx).trans x1;have e2:=(hb3.cell (p:=⟨Bx,2,none⟩) hbx).trans x2;have e3:=(hb3.cell (p:=⟨Bx,3,none⟩) hbx).trans x3;have HYQ:=HYw.out w3 hb3;obtain⟨fn,tmps,assign,body,hy,hR⟩:=HYQ;have ey:=(HIL.out w3 hb3).2.1.cell;clear hb3)|(refine a1l rfl ?_;refine a0i a0s (by decide) rfl (.tmp 23) rfl (entC ⟨u,pa,nm,tg⟩) rfl rfl ?_;refine a0u ?_)|(gi_at_builtin;refine a1l rfl ?_;refine a2p a0s rfl (.tmp 22) (.tmp 24) rfl _ n _ rfl (((HIL.out w3 HB3.out).2.2.2.2).own.alloc _) _ 1 (entC ⟨u,pa,nm,tg⟩) rfl (a0z _ _ _ _ rfl) (fun v hv=>by simp[entC] at hv;rcases hv with rfl|rfl|rfl|rfl<;>rfl) (by have:=HNL.out;omega) ?_;intro pa' ca wa hoa hta hla;have hB8:=a0m (((HIL.out w3 HB3.out).2.2.2.2).box.alloc (.cells (entC ⟨u,pa,nm,tg⟩).toArray 65)) hta (fun e=>by have:=HL.out.low _ e;omega);have c8a:=hB8.cell;have f8a:=hB8.frozen;have HOA:=ι hoa;have HTA:=ι hta;have HLA2:=ι hla;clear hoa hta hla hB8;refine a0u ?_))
   refine RoundIn.mono (F:=Fence.wide.inRound l2) hR ?_
   rintro e W4 (⟨rfl,hJ4,hT4⟩|⟨rfl,hJx4,hT4⟩)
   ·have HJ4:=ι hJ4
    have HT4:=ι hT4
    have hX4:AtE W4 Bx ⟨u,pa,nm,tg⟩:=hT4.keep _ _ (HX.out.later HB3.out) (fun hz=>by
     have:=HSZ.out
     rcases HZW.out _ _ hz with hh|hh
     ·omega
     ·exact a0k (by decide) hh)
    have h3:=HIL.out _ HB3.out
    have HL4:Hid (LowAt (W.heap.size+1) ss pre q n c W4):=ι (h3.2.2.2.2.turn hT4 fun g o hz=>(HZW.out g o hz).imp (fun h=>by omega) id)
    have H34:Hid (J (pre.filter pp++[k]) W4∧Go.Boxed W4 W.heap.size 69 (.func (.yield l) #[] #[])∧Keep w0 lo V1 W4∧W.heap.size≤W4.heap.size∧LowAt (W.heap.size+1) ss pre q n c W4):=ι ⟨hJ4,hT4.keep _ _ h3.2.1 (fun hz=>by
      rcases HZW.out _ _ hz with hh|hh
      ·omega
      ·exact a0k (by decide) hh),h3.2.2.1.turn hT4 (fun b o hz=>H1.out b o hz) (fun b o hz=>H2.out b o hz),Nat.le_trans h3.2.2.2.1 hT4.size,HL4.out⟩
    have x0:W4.cell? ⟨Bx,0,none⟩=some (.bool u):=hX4.cell0
    have x1:W4.cell? ⟨Bx,1,none⟩=some (.int .i64 pa):=hX4.cell1
    have x2:W4.cell? ⟨Bx,2,none⟩=some (.string nm):=hX4.cell2
    have x3:W4.cell? ⟨Bx,3,none⟩=some (.int .i64 tg):=hX4.cell3
    have cl4:W4.cell? ⟨W.heap.size+1,0,none⟩=some (.slice q n c):=HL4.out.box.cell
    clear hy hR hJ4 hT4 hX4 h3
    gi_wp2_with (first|(refine a1l rfl ?_;refine a0i a0s (by decide) rfl (.tmp 23) rfl (entC ⟨u,pa,nm,tg⟩) rfl rfl ?_;refine a0u ?_)|(gi_at_builtin;refine a1l rfl ?_;refine a2p a0s rfl (.tmp 22) (.tmp 24) rfl _ n _ rfl (HL4.out.own.alloc _) _ 1 (entC ⟨u,pa,nm,tg⟩) rfl (a0z _ _ _ _ rfl) (fun v hv=>by simp[entC] at hv;rcases hv with rfl|rfl|rfl|rfl<;>rfl) (by have:=HNL.out;omega) ?_;intro pa' ca wa hoa hta hla;have hB8:=a0m (HL4.out.box.alloc (.cells (entC ⟨u,pa,nm,tg⟩).toArray 65)) hta (fun e=>by have:=HL4.out.low _ e;omega);have c8a:=hB8.cell;have f8a:=hB8.frozen;have HOA:=ι hoa;have HTA:=ι hta;have HLA2:=ι hla;clear hoa hta hla hB8;refine a0u ?_))
    obtain⟨r1,r2⟩:=HEX2.out _ _ _ _ _ _ _ _ _ H34.out (Nat.le_trans HB3.out.size HT4.out.size) HOA.out HTA.out HLA2.out
    exact⟨⟨by rw[HYY.out];exact r1.1,r1.2⟩,((Turn.of_below HB3.out).trans (HT4.out.mono fun j o hz=>Or.inl hz)).trans r2⟩
   ·have HJX4:=ι hJx4
    have HT4:=ι hT4
    clear hy hR hJx4 hT4
    gi_wp2
    exact⟨⟨rfl,by rw[HYY.out];exact HJX4.out⟩,(Turn.of_below HB3.out).trans (HT4.out.mono fun j o hz=>hz.imp (fun h=>by have:=HSZ.out;omega) Or.inl)⟩
 case done =>
  rintro D ys V hD rfl hI hK
  have HI2:=ι hI
  clear hI
  gi_wp2
  refine⟨by simp,.inl ⟨_,_,rfl,run_takeDeferred hK,?_⟩⟩
  refine⟨_,results_none rfl _ _ _,⟨_,rfl⟩,.inl ⟨_,rfl,?_⟩⟩
  have h:=HI2.out.1
  rw[HPD.out] at h
  exact HJ.out _ _ _ h (CalmS.of a0f (rng.Calm.putObj _ (by have:=HSZ.out;omega) hK rfl))
 case stop =>
  rintro D c pre V hD hp ⟨rfl,hx⟩ hK
  have HX:=ι hx
  clear hx
  gi_wp2
  refine⟨by simp,.inl ⟨_,_,rfl,run_takeDeferred hK,?_⟩⟩
  refine⟨_,results_none rfl _ _ _,⟨_,rfl⟩,.inr ⟨_,?_,HJX.out _ _ _ HX.out (CalmS.of a0f (rng.Calm.putObj _ (by have:=HSZ.out;omega) hK rfl))⟩⟩
  rw[← HPD.out]
  exact hp.filter _
end lk
end Go.Proofs.YtkchliephkkioaaGreat
