/- What CheckStays wants, part 38. -/
import Derived.Test.YtpnahagiojelbaaGreatDoorCheckStaysB
import Derived.Test.YtpnahagiojelbaaGreatDoorCheckStaysV
import Derived.Test.YtpnahagiojelbaaGreatDoorCheckStaysX
import Derived.Test.YtpnahagiojelbaaGreatDoorCheckStaysShf
import Derived.Sort.OwnSortedInts
set_option linter.unusedVariables false
namespace Go.Proofs.YtpnahagiojelbaaGreatDoor
namespace lk
set_option maxRecDepth 100000
open Go.Sort Go.Lib
open Go.ChangeShapes Go.WideShapes Go.ChangeAt Go.RowKit
open rows
open sec
theorem csortI(p:Option Addr)(n c B:Nat)(zs:List Int)(w:World)(hn:n≤1000000)(h:rows.Own w B 3 1 (.slice p n c) n (i64s zs)) :
  Calls Tryz.prog 107 #[.slice p n c] w fun e w'=>e = .returned (.tuple #[])∧rows.Own w' B 3 1 (.slice p n c) n (i64s (zs.mergeSort fun x y=>decide (x≤y)))∧dsk.Touch (fun k=>(Value.slice p n c).ownBlock=some k) w w':=by
 have hl:zs.length=n:=by
  have:=h.1
  simpa [i64s] using this
 by_cases h0:n=0
 ·subst h0
  refine(Tryz.slices_Sort_int_none p c w).mono ?_
  rintro e w' ⟨rfl,rfl⟩
  obtain rfl:zs=[]:=List.eq_nil_of_length_eq_zero hl
  exact⟨rfl,by simpa using h,dsk.Touch.refl _ _⟩
 ·rcases h.2 with⟨h1,h2⟩|⟨g,cap,cur,h1,h2,h3,h4,h5,h6,h7⟩
  ·exact absurd h2 h0
  ·cases h1
   rw[Nat.mul_one] at h7
   subst hl
   refine(Tryz.slices_Sort_int g 0 c zs w (holds_of_blockI h3 h7) (Array.getElem?_eq_some_iff.1 h3).1 (by omega)).mono ?_
   rintro e w' ⟨rfl,m,os,rfl⟩
   refine⟨rfl,ownsRow_sortedI (List.length_mergeSort _) h2 h3 h4 h5 h6,?_⟩
   have hg:=grownBy_sortedI (w:=w) (g:=g) (n:=m) (os:=os) (zs.mergeSort fun x y=>decide (x≤y)).toArray
   exact⟨hg.os,hg.tape,hg.output,hg.size,fun k hk hn=>hg.block k hk fun e=>hn (by rw[e];rfl)⟩
end lk
end Go.Proofs.YtpnahagiojelbaaGreatDoor
